package tests

// eachShortText calls do with every text of up to most of these pieces.
func eachShortText(most int, pieces []string, do func(s string)) {
	var grow func(s string, left int)
	grow = func(s string, left int) {
		do(s)
		if left == 0 {
			return
		}
		for _, p := range pieces {
			grow(s+p, left-1)
		}
	}
	grow("", most)
}

// eachNearText calls do with every text that s becomes when one byte goes, or when one of these comes or stands in its place.
func eachNearText(s string, bytes string, do func(s string)) {
	for i := range len(s) + 1 {
		if i < len(s) {
			do(s[:i] + s[i+1:])
		}
		for j := range len(bytes) {
			c := bytes[j : j+1]
			do(s[:i] + c + s[i:])
			if i < len(s) {
				do(s[:i] + c + s[i+1:])
			}
		}
	}
}

// everyByte has each byte there is once.
func everyByte() string {
	out := []byte{}
	for b := range 256 {
		out = append(out, byte(b))
	}
	return string(out)
}
