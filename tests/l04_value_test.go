package tests

import (
	"math"
	"math/big"
	"math/rand"
	"reflect"
	"regexp"
	"slices"
	"strconv"
	"strings"
	"testing"

	"loop.example/g00119/impl"
)

// Promise 4: values come back of their text; what a path reaches, its parts reach.

var (
	valueTextForm = regexp.MustCompile(`\A"(?:[ !#-\[\]-~]|\\["\\])*"\z`)
	valueNumForm  = regexp.MustCompile(`\A(?:0|-?[1-9][0-9]*)\z`)
	rightText     = regexp.MustCompile(`\A[ -~]{0,100}\z`)
	escapedByte   = regexp.MustCompile(`\\(.)`)
)

// These make values without asking the program.

func textOf(s string) impl.Value { return impl.Value{Kind: impl.ValText, Text: s} }
func numOf(n int) impl.Value     { return impl.Value{Kind: impl.ValNum, Num: n} }
func boolOf(n int) impl.Value    { return impl.Value{Kind: impl.ValBool, Num: n} }

func listOf(kids ...impl.Value) impl.Value {
	return impl.Value{Kind: impl.ValList, Kids: kids}
}

// mapOf has the keys that stand between the blanks of this text.
func mapOf(keys string, kids ...impl.Value) impl.Value {
	return impl.Value{Kind: impl.ValMap, Keys: strings.Fields(keys), Kids: kids}
}

// nested is v within so many lists, or maps of one key.
func nested(v impl.Value, times int, inMaps bool) impl.Value {
	for range times {
		if inMaps {
			v = mapOf("a", v)
		} else {
			v = listOf(v)
		}
	}
	return v
}

// many are so many times v.
func many(n int, v impl.Value) []impl.Value {
	return slices.Repeat([]impl.Value{v}, n)
}

// ascendingKeys are so many names, up to 1000, in the order of bytes.
func ascendingKeys(n int) string {
	keys := []string{}
	for i := range n {
		keys = append(keys, "k"+strconv.Itoa(1000 + i)[1:])
	}
	return strings.Join(keys, " ")
}

// copied shares nothing with v; of an empty list it makes nil.
func copied(v impl.Value) impl.Value {
	out := impl.Value{Kind: v.Kind, Text: v.Text, Num: v.Num}
	out.Keys = append(out.Keys, v.Keys...)
	for _, k := range v.Kids {
		out.Kids = append(out.Kids, copied(k))
	}
	return out
}

// alike tells, without asking the program, whether two values are the same; an empty list and nil are.
func alike(a, b impl.Value) bool {
	return reflect.DeepEqual(copied(a), copied(b))
}

func isZero(v impl.Value) bool { return alike(v, impl.Value{}) }

// The document's words once more, each for itself.

func depthOf(v impl.Value) int {
	deepest := 0
	for _, k := range v.Kids {
		deepest = max(deepest, depthOf(k))
	}
	return 1 + deepest
}

func sizeOf(v impl.Value) int {
	n := 1
	for _, k := range v.Kids {
		n += sizeOf(k)
	}
	return n
}

// rightHere asks v alone, without its Kids.
func rightHere(v impl.Value) bool {
	others := v
	switch v.Kind {
	case impl.ValText:
		others.Text = ""
		return rightText.MatchString(v.Text) && alike(others, textOf(""))
	case impl.ValNum:
		others.Num = 0
		return alike(others, numOf(0))
	case impl.ValBool:
		return alike(v, boolOf(0)) || alike(v, boolOf(1))
	case impl.ValList:
		others.Kids = nil
		return alike(others, listOf())
	case impl.ValMap:
		others.Keys, others.Kids = nil, nil
		sorted := slices.Compact(slices.Sorted(slices.Values(v.Keys)))
		for _, k := range v.Keys {
			if !isName.MatchString(k) {
				return false
			}
		}
		return len(v.Keys) == len(v.Kids) && slices.Equal(sorted, v.Keys) && alike(others, mapOf(""))
	}
	return false
}

func rightAll(v impl.Value) bool {
	for _, k := range v.Kids {
		if !rightAll(k) {
			return false
		}
	}
	return rightHere(v)
}

func isValue(v impl.Value) bool {
	return rightAll(v) && depthOf(v) <= 6 && sizeOf(v) <= 300
}

// cutAtCommas cuts s at the commas that stand in no quotes and in no brackets.
func cutAtCommas(s string) []string {
	out, from, depth, quoted := []string{}, 0, 0, false
	for i := 0; i < len(s); i++ {
		switch c := s[i]; {
		case quoted && c == '\\':
			i++
		case c == '"':
			quoted = !quoted
		case quoted:
		case c == '[' || c == '{':
			depth++
		case c == ']' || c == '}':
			depth--
		case c == ',' && depth == 0:
			out = append(out, s[from:i])
			from = i + 1
		}
	}
	return append(out, s[from:])
}

// within is what stands between two brackets, cut at its commas.
func within(s, open, end string) ([]string, bool) {
	if len(s) < 2 || !strings.HasPrefix(s, open) || !strings.HasSuffix(s, end) {
		return nil, false
	}
	if len(s) == 2 {
		return nil, true
	}
	return cutAtCommas(s[1 : len(s)-1]), true
}

// valueOfText reads a text from the outside to the inside, by forms.
func valueOfText(s string) (impl.Value, bool) {
	v, ok := valueByForm(s, 6)
	if !ok || !isValue(v) {
		return impl.Value{}, false
	}
	return v, true
}

func valueByForm(s string, depth int) (impl.Value, bool) {
	if depth == 0 {
		return impl.Value{}, false
	}
	if s == "true" || s == "false" {
		return boolOf(len("false") - len(s)), true
	}
	if valueNumForm.MatchString(s) {
		n, _ := new(big.Int).SetString(s, 10)
		return numOf(int(n.Int64())), n.IsInt64()
	}
	if valueTextForm.MatchString(s) {
		return textOf(escapedByte.ReplaceAllString(s[1:len(s)-1], "$1")), true
	}
	if parts, ok := within(s, "[", "]"); ok {
		kids, ok := valuesByForm(parts, depth-1)
		return listOf(kids...), ok
	}
	parts, ok := within(s, "{", "}")
	v := mapOf("")
	for i, p := range parts {
		key, rest, _ := strings.Cut(p, ":")
		v.Keys = append(v.Keys, key)
		parts[i] = rest
	}
	kids, right := valuesByForm(parts, depth-1)
	v.Kids = kids
	return v, ok && right
}

func valuesByForm(parts []string, depth int) ([]impl.Value, bool) {
	out := []impl.Value{}
	for _, p := range parts {
		v, ok := valueByForm(p, depth)
		if !ok {
			return nil, false
		}
		out = append(out, v)
	}
	return out, true
}

// hundred has just as many bytes as a Text may have.
var hundred = strings.Repeat("x", 100)

// allBytes has each byte that a Text may have once.
func allBytes() string {
	out := []byte{}
	for b := byte(32); b <= 126; b++ {
		out = append(out, b)
	}
	return string(out)
}

type valueAndText struct {
	v impl.Value
	s string
}

// rightLeaves have no Kids.
func rightLeaves() []valueAndText {
	out := []valueAndText{
		{boolOf(0), "false"}, {boolOf(1), "true"}, {listOf(), "[]"}, {mapOf(""), "{}"},
		{textOf(""), `""`}, {textOf("a"), `"a"`}, {textOf(`"`), `"\""`}, {textOf(`\`), `"\\"`}, {textOf(`\"`), `"\\\""`}, {textOf(`"\`), `"\"\\"`}, {textOf(`\\`), `"\\\\"`}, {textOf(`\n`), `"\\n"`},
		{textOf(" "), `" "`}, {textOf("~"), `"~"`}, {textOf("a b"), `"a b"`}, {textOf("[1,2]"), `"[1,2]"`}, {textOf("{a:1}"), `"{a:1}"`}, {textOf("true"), `"true"`}, {textOf("-5"), `"-5"`}, {textOf(`","`), `"\",\""`}, {textOf("]"), `"]"`},
		{textOf(hundred), `"` + hundred + `"`}, {textOf(strings.Repeat(`"`, 100)), `"` + strings.Repeat(`\"`, 100) + `"`}, {textOf(strings.Repeat(`\`, 100)), `"` + strings.Repeat(`\`, 200) + `"`},
		{textOf(allBytes()), "\" !\\\"#$%&'()*+,-./0123456789:;<=>?@ABCDEFGHIJKLMNOPQRSTUVWXYZ[\\\\]^_`abcdefghijklmnopqrstuvwxyz{|}~\""},
	}
	for _, s := range []string{"0", "1", "-1", "9", "-9", "10", "-10", "100", "1234567890", "-1234567890", "9223372036854775807", "-9223372036854775807", "9223372036854775806", "-9223372036854775808"} {
		n, _ := new(big.Int).SetString(s, 10)
		out = append(out, valueAndText{numOf(int(n.Int64())), s})
	}
	return out
}

// rightValues are of all kinds, with the edges that the document names.
func rightValues() []valueAndText {
	small := listOf(textOf("a"), mapOf("b c", listOf(), boolOf(1)))
	return append(rightLeaves(), []valueAndText{
		{listOf(numOf(1)), "[1]"}, {listOf(numOf(1), numOf(-2), textOf("x"), boolOf(0)), `[1,-2,"x",false]`}, {listOf(listOf(), mapOf(""), listOf(listOf())), "[[],{},[[]]]"}, {small, `["a",{b:[],c:true}]`},
		{mapOf("a", numOf(1)), "{a:1}"}, {mapOf("a b c", numOf(1), textOf("{"), mapOf("")), `{a:1,b:"{",c:{}}`}, {mapOf("a10 a9", numOf(1), numOf(2)), "{a10:1,a9:2}"}, {mapOf("a a-b a0 aa", many(4, boolOf(0))...), "{a:false,a-b:false,a0:false,aa:false}"},
		{mapOf("0 1-1 true", numOf(0), numOf(1), numOf(2)), "{0:0,1-1:1,true:2}"}, {mapOf(longName, small), "{" + longName + `:["a",{b:[],c:true}]}`},
		{nested(numOf(1), 5, false), "[[[[[1]]]]]"}, {nested(listOf(), 5, false), "[[[[[[]]]]]]"}, {nested(mapOf(""), 5, true), "{a:{a:{a:{a:{a:{}}}}}}"}, {nested(nested(textOf("]"), 2, true), 3, false), `[[[{a:{a:"]"}}]]]`},
		{listOf(numOf(1), nested(numOf(2), 4, true), numOf(3)), "[1,{a:{a:{a:{a:2}}}},3]"},
		{listOf(many(299, numOf(7))...), "[" + strings.Repeat("7,", 298) + "7]"}, {listOf(many(149, listOf(boolOf(1)))...), "[" + strings.Repeat("[true],", 148) + "[true]]"}, {listOf(append(many(148, listOf(boolOf(1))), listOf(), textOf(""), mapOf(""))...), "[" + strings.Repeat("[true],", 148) + `[],"",{}]`},
		{mapOf(ascendingKeys(299), many(299, listOf())...), "{k" + strings.ReplaceAll(ascendingKeys(299), " ", ":[],")[1:] + ":[]}"},
	}...)
}

// wrongLeaves are no values, by what is wrong with them, without Kids that are.
func wrongLeaves() map[string]impl.Value {
	one, key := []impl.Value{numOf(1)}, []string{"a"}
	out := map[string]impl.Value{
		"the zero value": {}, "no kind, but a number": {Num: 1}, "a kind below": {Kind: -1}, "a kind past the last": {Kind: 6}, "a far kind": {Kind: math.MaxInt}, "the least kind": {Kind: math.MinInt}, "no kind, but Kids": {Keys: key, Kids: one},
		"a text with a number": {Kind: impl.ValText, Text: "a", Num: 1}, "a text with Keys": {Kind: impl.ValText, Keys: key}, "a text with Kids": {Kind: impl.ValText, Kids: one}, "a text as a map": {Kind: impl.ValText, Keys: key, Kids: one},
		"a number with a text": {Kind: impl.ValNum, Text: "1", Num: 1}, "a number with Keys": {Kind: impl.ValNum, Keys: key}, "a number with Kids": {Kind: impl.ValNum, Num: 1, Kids: one},
		"a bool with a text": {Kind: impl.ValBool, Text: "true", Num: 1}, "a bool with Keys": {Kind: impl.ValBool, Keys: key}, "a bool with Kids": {Kind: impl.ValBool, Num: 1, Kids: one}, "a bool of 2": boolOf(2), "a bool of -1": boolOf(-1), "a bool of the most": boolOf(math.MaxInt), "a bool of the least": boolOf(math.MinInt),
		"a list with a text": {Kind: impl.ValList, Text: "a"}, "a list with a number": {Kind: impl.ValList, Num: 1, Kids: one}, "a list with Keys": {Kind: impl.ValList, Keys: key, Kids: one}, "a list with Keys alone": {Kind: impl.ValList, Keys: key},
		"a map with a text": {Kind: impl.ValMap, Text: "a", Keys: key, Kids: one}, "a map with a number": {Kind: impl.ValMap, Num: -1}, "a map with Keys alone": mapOf("a"), "a map with Kids alone": mapOf("", numOf(1)), "more Keys than Kids": mapOf("a b", numOf(1)), "fewer Keys than Kids": mapOf("a b", many(3, numOf(1))...),
		"Keys out of order": mapOf("b a", many(2, numOf(1))...), "the last Keys out of order": mapOf("a c b", many(3, numOf(1))...), "Keys in the order of numbers": mapOf("9 10", many(2, numOf(1))...), "Keys alike": mapOf("a a", many(2, numOf(1))...), "the last Keys alike": mapOf("a b b", many(3, numOf(1))...),
		"a Key that is empty": {Kind: impl.ValMap, Keys: []string{""}, Kids: one}, "a Key that is no name": mapOf("A", numOf(1)), "a Key with a blank": {Kind: impl.ValMap, Keys: []string{"a b"}, Kids: one}, "a Key with an end": mapOf("a-", numOf(1)), "a Key with a colon": mapOf("a:b", numOf(1)), "the last Key is no name": mapOf("a b c_", many(3, numOf(1))...), "a Key too long": mapOf(longName+"n", numOf(1)),
		"a text too long": textOf(hundred + "x"), "a text too long by a quote": textOf(hundred + `"`), "a text far too long": textOf(strings.Repeat("x", 1000000)),
		"a map too great by its Keys": mapOf(ascendingKeys(300), many(299, numOf(1))...),
	}
	for _, b := range []string{"\x00", "\t", "\n", "\x1f", "\x7f", "\x80", "\xff", "é", "\u2028"} {
		out["a text of "+strconv.Quote(b)] = textOf(b)
		out["a text that ends in "+strconv.Quote(b)] = textOf("ab" + b)
	}
	return out
}

// wrongValues are the wrong leaves, these deep within what is right, and what is too deep or too great.
func wrongValues() map[string]impl.Value {
	out := wrongLeaves()
	for why, w := range wrongLeaves() {
		for times := 1; times <= 4; times++ {
			out[why+", in "+strconv.Itoa(times)+" lists"] = nested(listOf(numOf(1), w, numOf(2)), times-1, false)
			out[why+", in "+strconv.Itoa(times)+" maps"] = nested(mapOf("a b", mapOf(""), w), times-1, true)
		}
	}
	for _, inMaps := range []bool{false, true} {
		for _, times := range []int{6, 7, 50} {
			out["a depth of 1 and "+strconv.Itoa(times)+", "+strconv.FormatBool(inMaps)] = nested(numOf(1), times, inMaps)
		}
		out["a depth of 7 in the middle, "+strconv.FormatBool(inMaps)] = listOf(numOf(1), nested(textOf(""), 5, inMaps), numOf(2))
		out["a depth of 7 by an empty one, "+strconv.FormatBool(inMaps)] = nested(listOf(), 6, inMaps)
	}
	out["a size of 301"] = listOf(many(300, numOf(7))...)
	out["a size of 301, of a map"] = mapOf(ascendingKeys(300), many(300, numOf(7))...)
	out["a size of 301, by the last one"] = listOf(append(many(149, listOf(boolOf(1))), textOf(""), textOf(""))...)
	out["a size of 301, of two"] = listOf(listOf(many(149, numOf(7))...), listOf(many(149, numOf(7))...))
	out["a size of 301, deep within"] = nested(listOf(many(296, numOf(7))...), 4, true)
	out["a size far too great"] = listOf(many(100000, listOf(numOf(1)))...)
	return out
}

func TestValueConstants(t *testing.T) {
	if impl.MaxDepth != 6 || impl.MaxSize != 300 || impl.ValText != 1 || impl.ValNum != 2 || impl.ValBool != 3 || impl.ValList != 4 || impl.ValMap != 5 {
		t.Error("the constants of chapter 4")
	}
}

func TestValueComesBackOfItsText(t *testing.T) {
	for _, x := range rightValues() {
		if !isValue(x.v) {
			t.Fatalf("%.60s: the test is wrong", x.s)
		}
		if !impl.ValueOk(x.v) || impl.ValueText(x.v) != x.s || impl.SizeOf(x.v) != sizeOf(x.v) {
			t.Errorf("%.60s: %v %.60s %d", x.s, impl.ValueOk(x.v), impl.ValueText(x.v), impl.SizeOf(x.v))
		}
		if got, ok := impl.ParseValue(x.s); !ok || !alike(got, x.v) {
			t.Errorf("%.60s: %v %.200v", x.s, ok, got)
		}
	}
}

// What meets a limit exactly is right, and what passes it by one is not.
func TestValueLimits(t *testing.T) {
	for _, x := range []struct {
		what         string
		within, past impl.Value
	}{
		{"depth of lists", nested(numOf(1), 5, false), nested(numOf(1), 6, false)},
		{"depth of maps", nested(listOf(), 5, true), nested(listOf(), 6, true)},
		{"size", listOf(many(299, numOf(1))...), listOf(many(300, numOf(1))...)},
		{"size of a map", mapOf(ascendingKeys(299), many(299, numOf(1))...), mapOf(ascendingKeys(300), many(300, numOf(1))...)},
		{"size deep within", nested(listOf(many(295, numOf(1))...), 4, false), nested(listOf(many(296, numOf(1))...), 4, false)},
		{"text", textOf(hundred), textOf(hundred + "x")}, {"low bytes", textOf(" "), textOf("\x1f")}, {"high bytes", textOf("~"), textOf("\x7f")},
	} {
		if !isValue(x.within) || isValue(x.past) {
			t.Fatal(x.what, "the test is wrong")
		}
		if !impl.ValueOk(x.within) || impl.ValueOk(x.past) {
			t.Error(x.what, impl.ValueOk(x.within), impl.ValueOk(x.past))
		}
	}
}

func TestValueOfEachByte(t *testing.T) {
	for b := range 256 {
		for _, s := range []string{string([]byte{byte(b)}), "a" + string([]byte{byte(b)}) + "a"} {
			right := 32 <= b && b <= 126
			if impl.ValueOk(textOf(s)) != right || (impl.ValueText(textOf(s)) != "") != right {
				t.Errorf("%q: %v %q", s, impl.ValueOk(textOf(s)), impl.ValueText(textOf(s)))
			}
			if got, ok := impl.ParseValue(impl.ValueText(textOf(s))); ok != right || right && got.Text != s {
				t.Errorf("%q: %v %v", s, got, ok)
			}
		}
	}
}

func TestNoValues(t *testing.T) {
	for why, v := range wrongValues() {
		if isValue(v) {
			t.Fatal(why, "the test is wrong")
		}
		if impl.ValueOk(v) || impl.ValueText(v) != "" || impl.SizeOf(v) != 0 {
			t.Errorf("%s: %v %.60q %d", why, impl.ValueOk(v), impl.ValueText(v), impl.SizeOf(v))
		}
		for _, path := range [][]string{nil, {}, {"a"}, {"b"}, {"0"}, {"1"}, {"a", "0"}} {
			if got, ok := impl.Reach(v, path); ok || !isZero(got) {
				t.Errorf("%s: %q leads to %.200v", why, path, got)
			}
		}
	}
}

// What the Kind does not name may be an empty list as well as nil.
func TestEmptyListsAreNil(t *testing.T) {
	for _, x := range rightLeaves() {
		v := x.v
		v.Keys, v.Kids = []string{}, []impl.Value{}
		if !impl.ValueOk(v) || impl.ValueText(v) != x.s || impl.SizeOf(v) != 1 || !impl.SameValue(v, x.v) || !impl.SameValue(x.v, v) {
			t.Errorf("%s: an empty list counts", x.s)
		}
		if got, ok := impl.Reach(listOf(v), []string{"0"}); !ok || !alike(got, v) {
			t.Errorf("%s: %v %v", x.s, got, ok)
		}
	}
}

// readsValueAsItsForm asks that s is read if it is a value's text, and refused if not, with the zero value beside it.
func readsValueAsItsForm(t *testing.T, s string) {
	t.Helper()
	want, ok := valueOfText(s)
	got, gotOk := impl.ParseValue(s)
	if gotOk != ok || !alike(got, want) {
		t.Fatalf("%.200q: %v %.200v, not %v %.200v", s, gotOk, got, ok, want)
	}
	if ok && impl.ValueText(got) != s {
		t.Fatalf("%.200q came back as %.200q", s, impl.ValueText(got))
	}
}

func TestParseValueRefuses(t *testing.T) {
	for _, s := range []string{
		"", " ", "\n", "\x00", "a", "nil", "null", "True", "TRUE", "tru", "fals", "true ", " true", "truetrue", "true1", "1true", "falsetrue", "t", "f", "yes",
		"00", "01", "-0", "-00", "-01", "+1", "+0", "--1", "-", "+", "1-", "1-1", "-1-", "0-1", "1.0", "1.", ".5", "1e3", "1E3", "0x1", "1_000", "1 ", " 1", "1\n", "1 1", "1,1", "١", "１",
		"9223372036854775808", "-9223372036854775809", "9223372036854775810", "10000000000000000000", "18446744073709551615", "18446744073709551616", "-18446744073709551616", "-9223372036854775810", "99999999999999999999999999", "09223372036854775807",
		`"`, `"a`, `a"`, `""a`, `a""`, `"""`, `"a"b"`, `"\"`, `"\`, `\"`, `"\\\"`, `"\n"`, `"\a"`, `"\u0041"`, `"\/"`, `"\ "`, `"\'"`, `'a'`, "`a`", `"" `, ` ""`, `"""" `, `""""`, "\"\n\"", "\"\x1f\"", "\"\x7f\"", "\"\x80\"", "\"\xff\"", `"é"`, `"\é"`, "\"\\\x7f\"",
		`"` + hundred + `x"`, `"` + hundred + `\""`, `"` + strings.Repeat(`\\`, 101) + `"`,
		"[", "]", "[]]", "[[]", "[,]", "[1,]", "[,1]", "[1,,2]", "[1 ]", "[ 1]", "[1, 2]", "[ ]", "[1;2]", "[1 2]", "[1][2]", "[1]2", "[1],[2]", "[]x", "x[]", "(1)", "[1)", "[1}", "[a]", "[a:1]", "[[1],]", "[1", "[1,", `["a]`, `["a"`, "[true,fals]", "[01]", "[-0]", "[9223372036854775808]", `["\n"]`,
		"{", "}", "{}}", "{{}", "{{}}", "{,}", "{a}", "{a:}", "{:1}", "{:}", "{1}", "{a:1,}", "{,a:1}", "{a:1,,b:2}", "{a:1 }", "{ a:1}", "{a :1}", "{a: 1}", "{a:1, b:2}", "{ }", "{a=1}", "{a:1;b:2}", "{a:1b:2}", "{a::1}", "{a:b:1}", "{a:1:2}", `{"a":1}`, "{a:1]", "{a:1", "{a:1,", "{a:1,b", "{a:1,b:", "{a:1}{b:2}", "{a:1}}", "{a:1},{b:2}",
		"{b:1,a:2}", "{a:1,a:2}", "{a:1,a:1}", "{a:1,c:2,b:3}", "{9:1,10:2}", "{A:1}", "{-a:1}", "{a-:1}", "{a_b:1}", "{é:1}", "{a:1,B:2}", "{" + longName + "n:1}", "{a:01}", "{a:-0}", "{a:{b:{c:}}}", "{a:[1,{b:2,a:1}]}",
		"[[[[[[1]]]]]]", "[[[[[[[]]]]]]]", "{a:{a:{a:{a:{a:{a:1}}}}}}", "[1,[[[[[2]]]]]]", "[" + strings.Repeat("7,", 299) + "7]", "[" + strings.Repeat("[],", 299) + "[]]", "[" + strings.Repeat("[true],", 149) + "1,1]",
	} {
		if got, ok := impl.ParseValue(s); ok || !isZero(got) {
			t.Errorf("%.80q: %v %.200v", s, ok, got)
		}
		readsValueAsItsForm(t, s)
	}
}

func TestParseValueOfVeryLongTexts(t *testing.T) {
	for _, piece := range []string{
		"[", "]", "{", "}", "{a:", "a:", "{:", ":", ",", `"`, `\`, `""`, `\"`, "1", "0", "-", "-1", "true", "false", "[]", "{}", "[],", "[[],", "[1,", "{a:1,", "{a:{},", `["`, `"a",`, "a", " ", "\x00", "\xff", "é", "[[[[[", "[[[[[1]]]]]", "[{a:",
	} {
		long := strings.Repeat(piece, 300000)
		for _, s := range []string{long, "[" + long + "]", "{" + long + "}", `"` + long + `"`, "{a:" + long, "[[[[[" + long, "[1," + long, `["` + long, long + "1" + strings.Repeat("]", 300000), long + "1" + strings.Repeat("}", 300000)} {
			if got, ok := impl.ParseValue(s); ok || !isZero(got) {
				t.Errorf("%.20q and on: %.200v", s, got)
			}
		}
	}
}

// Every text of a few of these pieces is read as its form says.
func TestParseValueOfAllShortTexts(t *testing.T) {
	one := func(s string) { readsValueAsItsForm(t, s) }
	eachShortText(5, []string{"[", "]", "{", "}", ",", ":", `"`, `\`, "a", "0", "-", "true", " "}, one)
	eachShortText(6, []string{"[", "]", "{", "}", ",", "a:", "b:", "1"}, one)
	eachShortText(7, []string{`"`, `\`, "[", "]", ","}, one)
}

// Every text that is one byte away from a value's text is read as its form says, and so is every one that is cut off, or has bytes behind it.
func TestParseValueOfNearTexts(t *testing.T) {
	for _, x := range rightValues() {
		if len(x.s) > 300 {
			continue
		}
		eachNearText(x.s, everyByte(), func(s string) { readsValueAsItsForm(t, s) })
		for i := range len(x.s) {
			readsValueAsItsForm(t, x.s[:i])
			readsValueAsItsForm(t, x.s[i:])
		}
		for _, y := range rightLeaves() {
			readsValueAsItsForm(t, x.s+y.s)
			readsValueAsItsForm(t, x.s+","+y.s)
			readsValueAsItsForm(t, "["+x.s+","+y.s+"]")
		}
	}
}

func TestParseValueAtTheEndsOfNumbers(t *testing.T) {
	for _, end := range []*big.Int{big.NewInt(math.MaxInt64), big.NewInt(math.MinInt64), big.NewInt(0), new(big.Int).Lsh(big.NewInt(1), 64), new(big.Int).Lsh(big.NewInt(-1), 64)} {
		for away := int64(-300); away <= 300; away++ {
			s := new(big.Int).Add(end, big.NewInt(away)).String()
			for _, s := range []string{s, "[" + s + "]", "{a:" + s + "}", "0" + s, "-" + s, strings.Replace(s, "-", "-0", 1)} {
				readsValueAsItsForm(t, s)
			}
		}
	}
}

// someLeaves are what anyLeaf takes from.
var someLeaves = rightLeaves()

// anyLeaf has no Kids.
func anyLeaf(rnd *rand.Rand) impl.Value {
	switch rnd.Intn(3) {
	case 0:
		return someLeaves[rnd.Intn(len(someLeaves))].v
	case 1:
		return numOf(int(rnd.Uint64()) >> rnd.Intn(64))
	}
	text := []byte{}
	for range rnd.Intn(6) {
		text = append(text, ` !"\]}~,:a`[rnd.Intn(10)])
	}
	return textOf(string(text))
}

// anyValue is right, of up to this depth, with few Kids, or now and then many.
func anyValue(rnd *rand.Rand, depth int) impl.Value {
	if depth == 1 || rnd.Intn(4) == 0 {
		return anyLeaf(rnd)
	}
	keys := []string{}
	for range rnd.Intn(5) {
		keys = append(keys, []string{"a", "a-b", "a0", "aa", "b", "0", "1", "10", "true", longName}[rnd.Intn(10)])
	}
	slices.Sort(keys)
	keys = slices.Compact(keys)
	v := impl.Value{Kind: impl.ValList}
	for range keys {
		v.Kids = append(v.Kids, anyValue(rnd, depth-1))
	}
	if rnd.Intn(2) == 0 {
		v.Kind, v.Keys = impl.ValMap, keys
	}
	return v
}

// nodes are v and all below it, to be changed.
func nodes(v *impl.Value) []*impl.Value {
	out := []*impl.Value{v}
	for i := range v.Kids {
		out = append(out, nodes(&v.Kids[i])...)
	}
	return out
}

// changes make another value of one, each in one field.
func changes() []func(v *impl.Value) {
	return []func(v *impl.Value){
		func(v *impl.Value) { v.Kind++ }, func(v *impl.Value) { v.Kind-- }, func(v *impl.Value) { v.Kind = -v.Kind },
		func(v *impl.Value) { v.Text += "x" }, func(v *impl.Value) { v.Text += "\n" }, func(v *impl.Value) { v.Text = `"` + v.Text },
		func(v *impl.Value) { v.Num++ }, func(v *impl.Value) { v.Num-- }, func(v *impl.Value) { v.Num ^= math.MinInt },
		func(v *impl.Value) { v.Keys = append(v.Keys, "zz") }, func(v *impl.Value) { v.Keys = append([]string{""}, v.Keys...) },
		func(v *impl.Value) { v.Kids = append(v.Kids, numOf(1)) }, func(v *impl.Value) { v.Kids = append([]impl.Value{{}}, v.Kids...) },
		func(v *impl.Value) { v.Keys, v.Kids = append(v.Keys, "zz"), append(v.Kids, numOf(1)) },
		func(v *impl.Value) { v.Keys = append(v.Keys, "zz")[1:] }, func(v *impl.Value) { v.Kids = append(v.Kids, numOf(math.MinInt))[1:] },
	}
}

func TestValuesOfManyKinds(t *testing.T) {
	rnd := rand.New(rand.NewSource(4))
	for range 20000 {
		v := anyValue(rnd, 1+rnd.Intn(7))
		s := impl.ValueText(v)
		if right := isValue(v); impl.ValueOk(v) != right || (s != "") != right || impl.SizeOf(v) > 0 && impl.SizeOf(v) != sizeOf(v) || impl.SizeOf(v) > 0 != right {
			t.Fatalf("%v: %v %q %d", v, impl.ValueOk(v), s, impl.SizeOf(v))
		}
		if got, ok := impl.ParseValue(s); s != "" && (!ok || !alike(got, v) || !impl.SameValue(got, v)) {
			t.Fatalf("%q: %v %v", s, ok, got)
		}
		readsValueAsItsForm(t, s)
		spoilt := copied(v)
		all := nodes(&spoilt)
		changes()[rnd.Intn(len(changes()))](all[rnd.Intn(len(all))])
		if impl.ValueOk(spoilt) != isValue(spoilt) || (impl.SizeOf(spoilt) > 0) != isValue(spoilt) {
			t.Fatalf("%v: %v", spoilt, impl.ValueOk(spoilt))
		}
	}
}

func TestSizesAboutTheLimit(t *testing.T) {
	rnd := rand.New(rand.NewSource(44))
	right, wrong := 0, 0
	for range 300 {
		kids, size := []impl.Value{}, 1
		for want := 290 + rnd.Intn(20); size < want; {
			kids = append(kids, anyValue(rnd, 2+rnd.Intn(4)))
			size += sizeOf(kids[len(kids)-1])
		}
		v := listOf(kids...)
		if size > 300 {
			wrong++
			size = 0
		} else {
			right++
		}
		if impl.SizeOf(v) != size || impl.ValueOk(v) != (size > 0) {
			t.Fatalf("%d: %d", size, impl.SizeOf(v))
		}
		readsValueAsItsForm(t, impl.ValueText(v))
	}
	if right < 20 || wrong < 20 {
		t.Error("too few were tried:", right, wrong)
	}
}

// pathTexts lead somewhere, or nearly.
var pathTexts = []string{"", "0", "1", "2", "3", "10", "00", "01", "-1", "+1", "-0", " 1", "1 ", "0x1", "1000000000", "999999999", "9223372036854775808", "18446744073709551616", "18446744073709551617", "a", "a-b", "a0", "aa", "b", "true", "A", "é", "\xff", longName, strings.Repeat("0", 100000), strings.Repeat("9", 100000)}

// kidAt follows one text, by the document's words.
func kidAt(v impl.Value, text string) (impl.Value, bool) {
	for i, k := range v.Kids {
		if v.Kind == impl.ValMap && v.Keys[i] == text || v.Kind == impl.ValList && strconv.Itoa(i) == text {
			return k, true
		}
	}
	return impl.Value{}, false
}

// reachesRight asks that path leads where its words say, and that what it reaches is what its parts reach.
func reachesRight(t *testing.T, v impl.Value, path []string) {
	t.Helper()
	want, ok := v, isValue(v)
	for i := 0; ok && i < len(path); i++ {
		want, ok = kidAt(want, path[i])
	}
	if !ok {
		want = impl.Value{}
	}
	if got, gotOk := impl.Reach(v, path); gotOk != ok || !alike(got, want) {
		t.Fatalf("%.40q of %.200v: %v %.200v, not %v %.200v", path, v, gotOk, got, ok, want)
	}
	for i := range len(path) + 1 {
		got, ok1 := impl.Reach(v, path[:i])
		got, ok2 := impl.Reach(got, path[i:])
		if (ok1 && ok2) != ok || !alike(got, want) {
			t.Fatalf("%.40q, then %.40q of %.200v: %v, not %v", path[:i], path[i:], v, got, want)
		}
	}
}

// allPaths are those that lead to something of v.
func allPaths(v impl.Value) [][]string {
	out := [][]string{nil}
	for i, k := range v.Kids {
		first := strconv.Itoa(i)
		if v.Kind == impl.ValMap {
			first = v.Keys[i]
		}
		for _, rest := range allPaths(k) {
			out = append(out, append([]string{first}, rest...))
		}
	}
	return out
}

func TestReach(t *testing.T) {
	v := mapOf("0 a b", textOf("nought"), listOf(numOf(10), numOf(20), mapOf("b c", numOf(7), listOf(listOf(boolOf(1))))), mapOf("1", mapOf("")))
	ten := listOf(many(10, listOf())...)
	for _, x := range []struct {
		v    impl.Value
		path string
		want string
	}{
		{v, "", impl.ValueText(v)}, {v, "0", `"nought"`}, {v, "a", `[10,20,{b:7,c:[[true]]}]`}, {v, "a 0", "10"}, {v, "a 1", "20"}, {v, "a 2", "{b:7,c:[[true]]}"}, {v, "a 2 b", "7"}, {v, "a 2 c", "[[true]]"}, {v, "a 2 c 0", "[true]"}, {v, "a 2 c 0 0", "true"}, {v, "b", "{1:{}}"}, {v, "b 1", "{}"},
		{v, "a 3", ""}, {v, "a 4", ""}, {v, "a -1", ""}, {v, "a 00", ""}, {v, "a 01", ""}, {v, "a +1", ""}, {v, "a b", ""}, {v, "1", ""}, {v, "2", ""}, {v, "00", ""}, {v, "c", ""}, {v, "A", ""}, {v, "b 0", ""}, {v, "b 01", ""}, {v, "b 1 1", ""}, {v, "0 0", ""}, {v, "a 0 0", ""}, {v, "a 2 b 0", ""}, {v, "a 2 c 0 0 0", ""}, {v, "a 2 c 1", ""}, {v, "a 2 c 0 1", ""},
		{v, "0 a", ""}, {v, "a 2 a", ""}, {v, "a a", ""}, {v, "b b", ""},
		{ten, "0", "[]"}, {ten, "9", "[]"}, {ten, "10", ""}, {ten, "09", ""}, {ten, "9 0", ""}, {ten, "4294967296", ""}, {ten, "18446744073709551616", ""}, {ten, "18446744073709551625", ""}, {ten, "0000000000", ""}, {ten, "1000000000", ""},
		{listOf(), "", "[]"}, {listOf(), "0", ""}, {mapOf(""), "", "{}"}, {mapOf(""), "a", ""}, {mapOf(""), "0", ""}, {numOf(5), "", "5"}, {numOf(5), "0", ""}, {numOf(5), "5", ""}, {boolOf(1), "", "true"}, {boolOf(1), "true", ""}, {textOf("a"), "", `"a"`}, {textOf("a"), "a", ""}, {textOf("a"), "0", ""},
	} {
		got, ok := impl.Reach(x.v, strings.Fields(x.path))
		if ok != (x.want != "") || impl.ValueText(got) != x.want || !ok && !isZero(got) {
			t.Errorf("%q of %s: %v %v", x.path, impl.ValueText(x.v), ok, got)
		}
		reachesRight(t, x.v, strings.Fields(x.path))
	}
	for _, text := range pathTexts {
		for _, ahead := range allPaths(v) {
			reachesRight(t, v, append(ahead, text))
			reachesRight(t, v, append([]string{text}, ahead...))
		}
	}
	reachesRight(t, v, slices.Repeat([]string{"a"}, 1000))
	reachesRight(t, listOf(many(299, numOf(1))...), []string{"298"})
	reachesRight(t, listOf(many(299, numOf(1))...), []string{"299"})
	reachesRight(t, nested(numOf(1), 5, false), slices.Repeat([]string{"0"}, 5))
	reachesRight(t, nested(numOf(1), 5, false), slices.Repeat([]string{"0"}, 6))
}

func TestReachOfManyKinds(t *testing.T) {
	rnd := rand.New(rand.NewSource(444))
	for range 3000 {
		v := anyValue(rnd, 1+rnd.Intn(6))
		paths := allPaths(v)
		for _, path := range paths[:min(len(paths), 40)] {
			reachesRight(t, v, path)
			reachesRight(t, v, append(path, pathTexts[rnd.Intn(len(pathTexts))]))
			if len(path) > 0 {
				path[rnd.Intn(len(path))] = pathTexts[rnd.Intn(len(pathTexts))]
				reachesRight(t, v, path)
			}
		}
	}
}

func TestSameValue(t *testing.T) {
	all := []impl.Value{{}, {Kind: 9, Text: "x", Num: 3, Keys: []string{"", "b", ""}, Kids: many(2, impl.Value{})}}
	for _, x := range rightValues() {
		all = append(all, x.v)
	}
	for _, v := range wrongLeaves() {
		all = append(all, v)
	}
	for i, a := range all {
		if !impl.SameValue(a, a) || !impl.SameValue(a, copied(a)) || !impl.SameValue(copied(a), a) {
			t.Errorf("%.200v is not the same as itself", a)
		}
		for _, b := range all[:i] {
			if same := alike(a, b); impl.SameValue(a, b) != same || impl.SameValue(b, a) != same {
				t.Errorf("%.200v and %.200v: %v", a, b, !same)
			}
		}
	}
}

// Wherever one field of one part is otherwise, the whole is another one.
func TestSameValueAllThrough(t *testing.T) {
	values := []impl.Value{nested(numOf(1), 9, false), listOf(many(400, numOf(1))...), mapOf("b a", listOf(impl.Value{}), numOf(2))}
	for _, x := range rightValues() {
		values = append(values, x.v)
	}
	for _, v := range values {
		all := nodes(&v)
		for i := 0; i < len(all); i += 1 + len(all)/40 {
			for _, change := range changes() {
				other := copied(v)
				change(nodes(&other)[i])
				if same := alike(v, other); impl.SameValue(v, other) != same || impl.SameValue(other, v) != same {
					t.Fatalf("%.200v and %.200v: %v", v, other, !same)
				}
			}
		}
	}
}

// ring is a list that holds the next one, and that one the next .., and the last one the first; v is what each holds besides.
func ring(n int, v impl.Value) impl.Value {
	rows := make([][]impl.Value, n)
	for i := range rows {
		rows[i] = []impl.Value{v, {}}
	}
	for i := range rows {
		rows[i][1] = listOf(rows[(i+1)%n]...)
	}
	return listOf(rows[0]...)
}

// doubled is so many levels deep, and each level holds the next one twice.
func doubled(n int, v impl.Value) impl.Value {
	for range n {
		v = listOf(v, v)
	}
	return v
}

// Lists that hold themselves, or have more parts than can be counted, are no values, and every call ends.
func TestValuesWithoutEnd(t *testing.T) {
	one, two := numOf(1), numOf(2)
	keyed := mapOf("a", one)
	keyed.Kids[0] = mapOf("a", keyed)
	keyed.Kids[0].Kids[0] = keyed
	wide := make([]impl.Value, 1000)
	for i := range wide {
		wide[i] = impl.Value{Kind: impl.ValList, Kids: wide}
	}
	for what, v := range map[string]impl.Value{"a ring of one": ring(1, one), "a ring of five": ring(5, one), "a ring of maps": keyed, "a wide ring": wide[0], "doubled": doubled(70, one), "deep": nested(one, 300000, false), "many": listOf(many(300000, one)...)} {
		if impl.ValueOk(v) || impl.ValueText(v) != "" || impl.SizeOf(v) != 0 || !impl.SameValue(v, v) || impl.SameValue(v, one) || impl.SameValue(listOf(), v) {
			t.Error(what, "is taken")
		}
		for _, path := range [][]string{nil, {"0"}, {"0", "0"}, {"a"}} {
			if got, ok := impl.Reach(v, path); ok || !isZero(got) {
				t.Error(what, "has", path)
			}
		}
	}
	for _, x := range []struct {
		a, b impl.Value
		same bool
	}{
		{ring(1, one), ring(1, one), true}, {ring(1, one), ring(1, two), false}, {ring(2, one), ring(3, one), true}, {ring(6, one), ring(4, one), true}, {ring(2, one), ring(3, two), false}, {ring(1, ring(2, one)), ring(3, ring(1, one)), true}, {ring(1, ring(2, one)), ring(3, ring(1, two)), false},
		{doubled(70, one), doubled(70, one), true}, {doubled(70, one), doubled(70, two), false}, {doubled(70, one), doubled(71, one), false}, {doubled(70, one), ring(1, one), false},
		{nested(one, 300000, false), nested(one, 300000, false), true}, {nested(one, 300000, false), nested(two, 300000, false), false}, {nested(one, 300000, true), nested(one, 300001, true), false},
	} {
		if impl.SameValue(x.a, x.b) != x.same || impl.SameValue(x.b, x.a) != x.same {
			t.Error(sizeName(x.a), sizeName(x.b), !x.same)
		}
	}
}

// A list and the beginning of it share memory, and are not the same list.
func TestSameValueOfListsThatBeginAlike(t *testing.T) {
	x, y := many(2, numOf(1)), []impl.Value{numOf(1), numOf(2)}
	for _, ends := range [][]int{{1, 2}, {2, 1}, {1, 2, 1}, {0, 2, 1}} {
		a, b := listOf(), listOf()
		for _, end := range ends {
			a.Kids = append(a.Kids, listOf(x[:end]...))
			b.Kids = append(b.Kids, listOf(y[:end]...))
		}
		if impl.SameValue(a, b) || impl.SameValue(b, a) || !impl.SameValue(a, copied(a)) {
			t.Error(ends)
		}
	}
}

// sizeName tells how v begins, as the whole may have no end.
func sizeName(v impl.Value) string {
	return "kind " + strconv.Itoa(v.Kind) + " with " + strconv.Itoa(len(v.Kids)) + " Kids"
}

// roomy is v with further Keys and Kids in the room behind the length of each list.
func roomy(v impl.Value) impl.Value {
	v.Keys = append(slices.Clone(v.Keys), "behind", "")[:len(v.Keys)]
	kids := make([]impl.Value, 0, len(v.Kids)+2)
	for _, k := range v.Kids {
		kids = append(kids, roomy(k))
	}
	v.Kids = append(kids, numOf(1), impl.Value{})[:len(kids)]
	return v
}

// untouched tells whether all that roomy put behind is there still.
func untouched(v impl.Value) bool {
	n := len(v.Kids)
	for _, k := range v.Kids {
		if !untouched(k) {
			return false
		}
	}
	behind := v.Kids[:n+2][n:]
	return slices.Equal(v.Keys[:len(v.Keys)+2][len(v.Keys):], []string{"behind", ""}) && alike(behind[0], numOf(1)) && isZero(behind[1])
}

// What lies behind a list's length is neither read nor written, and no argument is changed.
func TestBehindTheLengthOfValues(t *testing.T) {
	values := []impl.Value{nested(numOf(1), 8, true)}
	for _, x := range rightValues() {
		values = append(values, x.v)
	}
	for _, v := range wrongLeaves() {
		values = append(values, v)
	}
	for _, v := range values {
		short := roomy(v)
		if impl.ValueOk(short) != impl.ValueOk(v) || impl.ValueText(short) != impl.ValueText(v) || impl.SizeOf(short) != impl.SizeOf(v) || !impl.SameValue(short, v) || !impl.SameValue(v, short) {
			t.Errorf("%.200v: read", v)
		}
		for _, path := range [][]string{nil, {"behind"}, {"a"}, {""}, {"0"}, {strconv.Itoa(len(v.Kids))}} {
			whole := append(slices.Clone(path), "0")
			a, ok1 := impl.Reach(v, path)
			b, ok2 := impl.Reach(short, whole[:len(path)])
			if ok1 != ok2 || !alike(a, b) || !slices.Equal(whole, append(slices.Clone(path), "0")) {
				t.Errorf("%.200v: %q: %v %v", v, path, ok2, b)
			}
		}
		if !untouched(short) || !alike(short, v) {
			t.Errorf("%.200v: written", v)
		}
	}
}

// overwritten has all that v's lists hold overwritten, and what lies behind them.
func overwritten(v impl.Value) {
	for i := range v.Keys[:cap(v.Keys)] {
		v.Keys[:cap(v.Keys)][i] = "changed"
	}
	for _, k := range v.Kids {
		overwritten(k)
	}
	for i := range v.Kids[:cap(v.Kids)] {
		v.Kids[:cap(v.Kids)][i] = textOf("changed")
	}
}

// What Reach answers shares no memory with its argument.
func TestReachedValuesAreNewMemory(t *testing.T) {
	for _, x := range rightValues() {
		for i, path := range allPaths(x.v) {
			if i == 20 {
				break
			}
			v := roomy(x.v)
			got, _ := impl.Reach(v, path)
			kept := copied(got)
			overwritten(v)
			if !alike(got, kept) {
				t.Errorf("%.60s: the answer at %q changed with its argument", x.s, path)
			}
			v = roomy(x.v)
			got, _ = impl.Reach(v, path)
			overwritten(got)
			if !untouched(v) || !alike(v, x.v) {
				t.Errorf("%.60s: the argument changed with its answer at %q", x.s, path)
			}
		}
	}
}

// No two lists of one answer share memory, even if those of the argument do.
func TestListsOfOneValueShareNothing(t *testing.T) {
	kid := mapOf("a b", listOf(numOf(1)), listOf())
	shared := listOf(kid, kid, kid.Kids[0])
	read, _ := impl.ParseValue(impl.ValueText(shared))
	reached, _ := impl.Reach(shared, nil)
	deeper, _ := impl.Reach(listOf(shared), []string{"0"})
	for what, v := range map[string]impl.Value{"read": read, "reached": reached, "reached deeper": deeper} {
		kept := copied(v)
		overwritten(v.Kids[0])
		if !alike(v.Kids[1], kept.Kids[1]) || !alike(v.Kids[2], kept.Kids[2]) {
			t.Errorf("%s: a list changed with another one", what)
		}
		overwritten(v.Kids[1])
		if !alike(v.Kids[2], kept.Kids[2]) {
			t.Errorf("%s: a list changed with another one", what)
		}
	}
	again, _ := impl.ParseValue(impl.ValueText(shared))
	if !alike(again, shared) {
		t.Error("an answer was kept")
	}
}
