package impl

import (
	"slices"
	"strings"
)

const (
	MaxName   = 20
	MaxLabels = 8
)

type Label struct {
	Key   string
	Value string
}

func NameOk(s string) bool {
	if s == "" || len(s) > MaxName {
		return false
	}
	for _, r := range s {
		if !nameRune(r) {
			return false
		}
	}
	return s[0] != '-' && s[len(s)-1] != '-'
}

func nameRune(r rune) bool {
	return 'a' <= r && r <= 'z' || '0' <= r && r <= '9' || r == '-'
}

func ascendingNames(l []string) bool {
	for i, name := range l {
		if !NameOk(name) || i > 0 && l[i-1] >= name {
			return false
		}
	}
	return true
}

func LabelsOk(l []Label) bool {
	if len(l) > MaxLabels {
		return false
	}
	for i, x := range l {
		if !NameOk(x.Key) || !NameOk(x.Value) {
			return false
		}
		if i > 0 && l[i-1].Key >= x.Key {
			return false
		}
	}
	return true
}

func LabelGet(l []Label, key string) (string, bool) {
	for _, x := range l {
		if x.Key == key {
			return x.Value, true
		}
	}
	return "", false
}

func LabelSet(l []Label, key string, value string) ([]Label, bool) {
	if !LabelsOk(l) {
		return withLabels(l), false
	}
	set := withLabels(l, Label{Key: key, Value: value})
	// l was right, so only the new label can have made it wrong: no names, or one too many.
	if !LabelsOk(set) {
		return withLabels(l), false
	}
	return set, true
}

// withLabels copies first, so that neither l nor the spare room behind it is ever written.
func withLabels(l []Label, more ...Label) []Label {
	out := make([]Label, len(l), len(l)+len(more))
	copy(out, l)
	for _, x := range more {
		at, there := slices.BinarySearchFunc(out, x.Key, labelOrder)
		if there {
			out[at] = x
		} else {
			out = slices.Insert(out, at, x)
		}
	}
	return out
}

func labelOrder(x Label, key string) int {
	return strings.Compare(x.Key, key)
}

func LabelDrop(l []Label, key string) []Label {
	out := []Label{}
	for _, x := range l {
		if x.Key != key {
			out = append(out, x)
		}
	}
	return out
}

func LabelsText(l []Label) string {
	if !LabelsOk(l) {
		return ""
	}
	parts := []string{}
	for _, x := range l {
		parts = append(parts, x.Key+"="+x.Value)
	}
	return strings.Join(parts, ",")
}

func ParseLabels(s string) ([]Label, bool) {
	out := []Label{}
	if s == "" {
		return out, true
	}
	// One part more than there may be labels is enough to see that there are too many.
	for _, part := range strings.SplitN(s, ",", MaxLabels+1) {
		key, value, ok := strings.Cut(part, "=")
		if !ok {
			return []Label{}, false
		}
		out = append(out, Label{Key: key, Value: value})
	}
	if !LabelsOk(out) {
		return []Label{}, false
	}
	return out, true
}
