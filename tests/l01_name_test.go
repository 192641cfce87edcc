package tests

import (
	"maps"
	"math/rand"
	"regexp"
	"slices"
	"strings"
	"testing"

	"loop.example/g00119/impl"
)

// Promise 1: a label that is set is found, and nothing else is otherwise; labels come back of their text.

const namePattern = `[a-z0-9]([a-z0-9-]{0,18}[a-z0-9])?`

var (
	isName = regexp.MustCompile(`\A` + namePattern + `\z`)
	isPair = regexp.MustCompile(`\A` + namePattern + `=` + namePattern + `\z`)
)

// labels makes a list of texts like "k=v", without asking the program.
func labels(pairs ...string) []impl.Label {
	out := []impl.Label{}
	for _, p := range pairs {
		k, v, _ := strings.Cut(p, "=")
		out = append(out, impl.Label{Key: k, Value: v})
	}
	return out
}

// full has just MaxLabels labels: the keys b, d, f .. p.
func full() []impl.Label {
	return labels("b=1", "d=2", "f=3", "h=4", "j=5", "l=6", "n=7", "p=8")
}

// spare answers l with further labels in the room behind its length, and the whole of that room.
func spare(l []impl.Label, behind ...impl.Label) (short, whole []impl.Label) {
	whole = append(slices.Clone(l), behind...)
	return whole[:len(l)], whole
}

// notLabels are lists that are not LabelsOk, by what is wrong with them.
func notLabels() map[string][]impl.Label {
	return map[string][]impl.Label{
		"one too many":      append(full(), labels("r=9")...),
		"out of order":      labels("b=1", "a=2"),
		"alike":             labels("a=1", "a=1"),
		"alike at the end":  labels("a=1", "b=1", "b=2"),
		"no key":            labels("=1"),
		"no value":          labels("a="),
		"the empty label":   {{}},
		"key is no name":    labels("a=1", "b-=1"),
		"value is no name":  labels("a=1", "b=-1"),
		"last value":        labels("a=1", "b=B"),
		"key too long":      labels(strings.Repeat("k", impl.MaxName+1) + "=1"),
		"value too long":    labels("a=" + strings.Repeat("v", impl.MaxName+1)),
		"order of numbers":  labels("a9=1", "a10=1"),
		"order by length":   labels("b=1", "aa=1"),
		"a sign in between": labels("a0=1", "a-b=1"),
	}
}

func TestLimits(t *testing.T) {
	if impl.MaxName != 20 || impl.MaxLabels != 8 {
		t.Error(impl.MaxName, impl.MaxLabels)
	}
}

func TestNameOk(t *testing.T) {
	for _, s := range []string{
		"a", "z", "0", "9", "web", "a-1", "1-a", "a--b", "00", "x-0-x",
		strings.Repeat("a", impl.MaxName), "a" + strings.Repeat("-", impl.MaxName-2) + "9",
	} {
		if !impl.NameOk(s) {
			t.Errorf("%q is a name", s)
		}
	}
	for _, s := range []string{
		"", "-", "--", "-a", "a-", "-a-", "A", "aB", "a b", " a", "a ", "a_b", "a.b", "a=b", "a,b", "a\n", "a\x00",
		"`", "{", "/", ":", "é", "aé", "éa", "aéb", "\u0661", "\uff41", "\u2010", "a\xff", "\xffa", "a\x80b", "\xc3",
		strings.Repeat("a", impl.MaxName+1), strings.Repeat("a", impl.MaxName) + "-", strings.Repeat("é", 10), strings.Repeat("a", 1000),
	} {
		if impl.NameOk(s) {
			t.Errorf("%q is no name", s)
		}
	}
}

func TestNameOkOfEachByte(t *testing.T) {
	for i := range 256 {
		b := string([]byte{byte(i)})
		for _, s := range []string{b, "a" + b, b + "a", "a" + b + "a", strings.Repeat("a", impl.MaxName-1) + b} {
			if impl.NameOk(s) != isName.MatchString(s) {
				t.Errorf("%q: %v", s, impl.NameOk(s))
			}
		}
	}
}

func TestLabelsOk(t *testing.T) {
	for _, l := range [][]impl.Label{
		nil, {}, labels("a=a"), labels("a=1", "b=1"), labels("a=2", "b=1"), labels("a10=1", "a9=1"), labels("a=1", "a-b=1", "a0=1", "aa=1", "b=1"),
		full(), labels(strings.Repeat("k", impl.MaxName) + "=" + strings.Repeat("v", impl.MaxName)),
	} {
		if !impl.LabelsOk(l) {
			t.Errorf("%v are labels", l)
		}
	}
	for why, l := range notLabels() {
		if impl.LabelsOk(l) {
			t.Errorf("%s: %v are no labels", why, l)
		}
	}
}

func TestLabelGet(t *testing.T) {
	l := labels("app=web", "tier=gold", "x=y")
	for k, v := range map[string]string{"app": "web", "tier": "gold", "x": "y"} {
		if got, ok := impl.LabelGet(l, k); got != v || !ok {
			t.Errorf("%q: %q %v", k, got, ok)
		}
	}
	for _, k := range []string{"", "ap", "appl", "web", "gold", "App", "y", "\xff"} {
		if got, ok := impl.LabelGet(l, k); got != "" || ok {
			t.Errorf("%q: %q %v", k, got, ok)
		}
	}
	if got, ok := impl.LabelGet(nil, "a"); got != "" || ok {
		t.Errorf("of nothing: %q %v", got, ok)
	}
}

// LabelGet asks nothing of the list or the key.
func TestLabelGetOfWrongLists(t *testing.T) {
	l := labels("b=first", "a=2", "b=second", "=none", "C=-")
	for k, v := range map[string]string{"b": "first", "a": "2", "": "none", "C": "-"} {
		if got, ok := impl.LabelGet(l, k); got != v || !ok {
			t.Errorf("%q: %q %v", k, got, ok)
		}
	}
	many := append(full(), labels("r=9")...)
	if got, ok := impl.LabelGet(many, "r"); got != "9" || !ok {
		t.Errorf("behind MaxLabels: %q %v", got, ok)
	}
}

func TestLabelSet(t *testing.T) {
	for _, c := range []struct {
		l          []impl.Label
		key, value string
		want       []impl.Label
	}{
		{nil, "a", "1", labels("a=1")},
		{labels(), "a", "1", labels("a=1")},
		{labels("b=1"), "a", "2", labels("a=2", "b=1")},
		{labels("b=1"), "c", "2", labels("b=1", "c=2")},
		{labels("a=1", "c=3"), "b", "2", labels("a=1", "b=2", "c=3")},
		{labels("a=1", "b=2", "c=3"), "a", "9", labels("a=9", "b=2", "c=3")},
		{labels("a=1", "b=2", "c=3"), "b", "9", labels("a=1", "b=9", "c=3")},
		{labels("a=1", "b=2", "c=3"), "c", "9", labels("a=1", "b=2", "c=9")},
		{labels("a=1"), "a", "1", labels("a=1")},
		{labels("a9=1"), "a10", "2", labels("a10=2", "a9=1")},
		{labels("a=1", "a0=2"), "a-b", "3", labels("a=1", "a-b=3", "a0=2")},
		{full()[:7], "p", "8", full()},
		{full()[1:], "b", "1", full()},
		{full(), "p", "9", append(full()[:7], labels("p=9")...)},
		{full(), "b", "9", append(labels("b=9"), full()[1:]...)},
		{nil, strings.Repeat("k", 20), strings.Repeat("v", 20), labels(strings.Repeat("k", 20) + "=" + strings.Repeat("v", 20))},
	} {
		if got, ok := impl.LabelSet(c.l, c.key, c.value); !ok || !slices.Equal(got, c.want) {
			t.Errorf("%v with %q=%q: %v %v", c.l, c.key, c.value, got, ok)
		}
	}
}

func TestLabelSetRefuses(t *testing.T) {
	long := strings.Repeat("a", impl.MaxName+1)
	for _, c := range []struct {
		l          []impl.Label
		key, value string
	}{
		{nil, "", "1"}, {nil, "a", ""}, {nil, "", ""}, {nil, "A", "1"}, {nil, "a", "B"}, {nil, "-a", "1"}, {nil, "a", "b-"}, {nil, long, "1"}, {nil, "a", long},
		{labels("a=1"), "a", ""}, {labels("a=1"), "a", "é"}, {labels("a=1", "b=2"), "a=b", "1"},
		{full(), "a", "9"}, {full(), "c", "9"}, {full(), "q", "9"}, {full(), "b", "-"},
	} {
		if got, ok := impl.LabelSet(c.l, c.key, c.value); ok || !slices.Equal(got, c.l) {
			t.Errorf("%v with %q=%q: %v %v", c.l, c.key, c.value, got, ok)
		}
	}
	for why, l := range notLabels() {
		for _, key := range []string{"a", "b", "zz", l[0].Key} {
			if got, ok := impl.LabelSet(l, key, "1"); ok || !slices.Equal(got, l) {
				t.Errorf("%s: %v with %q: %v %v", why, l, key, got, ok)
			}
		}
	}
}

func TestLabelDrop(t *testing.T) {
	for _, c := range []struct {
		l    []impl.Label
		key  string
		want []impl.Label
	}{
		{nil, "a", nil},
		{labels("a=1"), "a", nil},
		{labels("a=1"), "b", labels("a=1")},
		{labels("a=1"), "1", labels("a=1")},
		{labels("a=1", "b=2", "c=3"), "a", labels("b=2", "c=3")},
		{labels("a=1", "b=2", "c=3"), "b", labels("a=1", "c=3")},
		{labels("a=1", "b=2", "c=3"), "c", labels("a=1", "b=2")},
		{full(), "p", full()[:7]},
		{labels("b=1", "a=2", "b=3", "b=4", "a=5"), "b", labels("a=2", "a=5")},
		{labels("=1", "A=2", "=3"), "", labels("A=2")},
		{labels("=1", "A=2"), "A", labels("=1")},
		{append(full(), labels("r=9", "s=10")...), "b", append(full()[1:], labels("r=9", "s=10")...)},
	} {
		if got := impl.LabelDrop(c.l, c.key); !slices.Equal(got, c.want) {
			t.Errorf("%v without %q: %v", c.l, c.key, got)
		}
	}
}

func TestLabelsText(t *testing.T) {
	for _, c := range []struct {
		l    []impl.Label
		want string
	}{
		{nil, ""}, {labels(), ""}, {labels("a=b"), "a=b"}, {labels("a=1", "b-c=d-e"), "a=1,b-c=d-e"},
		{full(), "b=1,d=2,f=3,h=4,j=5,l=6,n=7,p=8"},
	} {
		if got := impl.LabelsText(c.l); got != c.want {
			t.Errorf("%v: %q", c.l, got)
		}
		if back, ok := impl.ParseLabels(c.want); !ok || !slices.Equal(back, c.l) {
			t.Errorf("%q: %v %v", c.want, back, ok)
		}
	}
	for why, l := range notLabels() {
		if got := impl.LabelsText(l); got != "" {
			t.Errorf("%s: %v: %q", why, l, got)
		}
	}
}

// The longest text there may be comes back, and one byte more anywhere is refused.
func TestLongestText(t *testing.T) {
	pairs := []string{}
	for i := range impl.MaxLabels {
		digit := string(rune('1' + i))
		pairs = append(pairs, strings.Repeat(digit, impl.MaxName)+"="+strings.Repeat("v", impl.MaxName))
	}
	s := strings.Join(pairs, ",")
	l, ok := impl.ParseLabels(s)
	if !ok || !slices.Equal(l, labels(pairs...)) || impl.LabelsText(l) != s {
		t.Errorf("the longest: %v %v", l, ok)
	}
	for i := range len(s) + 1 {
		if got, ok := impl.ParseLabels(s[:i] + "v" + s[i:]); ok || len(got) != 0 {
			t.Errorf("one byte more at %d: %v", i, got)
		}
	}
}

func TestParseLabelsRefuses(t *testing.T) {
	for _, s := range []string{
		"a", "=", "a=", "=b", ",", "a=b,", ",a=b", "a=b,,c=d", "a=b=c", "a==b", "a=b;c=d", " ", " a=b", "a=b ", "a=b, c=d", "a = b", "a=b\n", "a=b,c=d\n", "\n",
		"b=x,a=y", "a=b,a=c", "a=b,a=b", "a=b,c=d,b=e", "a9=1,a10=1",
		"A=b", "a=B", "-a=b", "a=b-", "a=-", "é=a", "a=\xff", "\x00",
		strings.Repeat("a", 21) + "=b", "a=" + strings.Repeat("b", 21),
		"a=1,b=1,c=1,d=1,e=1,f=1,g=1,h=1,i=1", "a=1,b=1,c=1,d=1,e=1,f=1,g=1,h=1,", "a=1,b=1,c=1,d=1,e=1,f=1,g=1,h=1,i=1,j=1",
		strings.Repeat(",", 100000), strings.Repeat("a=b,", 100000),
	} {
		if got, ok := impl.ParseLabels(s); ok || len(got) != 0 {
			t.Errorf("%.40q: %v %v", s, got, ok)
		}
	}
}

// labelsOfText reads a text by its form alone: right parts, keys that rise.
func labelsOfText(s string) ([]impl.Label, bool) {
	if s == "" {
		return nil, true
	}
	parts := strings.Split(s, ",")
	for i, p := range parts {
		if !isPair.MatchString(p) || i > 0 && labels(p)[0].Key <= labels(parts[i-1])[0].Key {
			return nil, false
		}
	}
	return labels(parts...), true
}

// Every text of up to seven of these bytes is read as its form says.
func TestParseLabelsOfAllShortTexts(t *testing.T) {
	eachShortText(7, []string{"a", "b", "=", ",", "-"}, func(s string) {
		want, ok := labelsOfText(s)
		got, gotOk := impl.ParseLabels(s)
		if gotOk != ok || !slices.Equal(got, want) {
			t.Fatalf("%q: %v %v", s, got, gotOk)
		}
		if ok && impl.LabelsText(got) != s {
			t.Fatalf("%q came back as %q", s, impl.LabelsText(got))
		}
	})
}

// What is set is found, and nothing else is otherwise: against a map, over many steps.
func TestLabelsAsAMap(t *testing.T) {
	rnd := rand.New(rand.NewSource(1))
	keys := []string{"a", "a-b", "a0", "aa", "b", "b1", "c", "d", "e", "f9", "z", "A", ""}
	values := []string{"x", "y", "0", strings.Repeat("v", impl.MaxName), "-", ""}
	want := map[string]string{}
	l := []impl.Label{}
	for step := range 20000 {
		key, value := keys[rnd.Intn(len(keys))], values[rnd.Intn(len(values))]
		if rnd.Intn(4) == 0 {
			l = impl.LabelDrop(l, key)
			delete(want, key)
		} else {
			_, there := want[key]
			right := isName.MatchString(key) && isName.MatchString(value) && (there || len(want) < impl.MaxLabels)
			next, ok := impl.LabelSet(l, key, value)
			if ok != right {
				t.Fatalf("step %d: %v with %q=%q: %v", step, l, key, value, ok)
			}
			if l = next; right {
				want[key] = value
			}
		}
		sameAsMap(t, l, want, keys)
	}
}

func sameAsMap(t *testing.T, l []impl.Label, want map[string]string, keys []string) {
	t.Helper()
	pairs := []string{}
	for _, k := range slices.Sorted(maps.Keys(want)) {
		pairs = append(pairs, k+"="+want[k])
	}
	if !impl.LabelsOk(l) || impl.LabelsText(l) != strings.Join(pairs, ",") {
		t.Fatalf("%v is not %v", l, pairs)
	}
	for _, k := range keys {
		v, there := want[k]
		if got, ok := impl.LabelGet(l, k); got != v || ok != there {
			t.Fatalf("%v: %q is %q %v", l, k, got, ok)
		}
	}
}

// What lies behind a list's length is neither read nor written.
func TestBehindTheLength(t *testing.T) {
	lists := [][]impl.Label{labels(), labels("b=1"), labels("b=1", "d=2", "f=3"), full(), labels("b=1", "a=2")}
	for _, behind := range [][]impl.Label{labels("q=1", "r=2"), labels("=", "B=-"), labels("b=9", "b=9")} {
		for _, l := range lists {
			short, whole := spare(l, behind...)
			before := slices.Clone(whole)
			for _, key := range []string{"a", "b", "c", "g", "q", "B", ""} {
				again(t, l, short, key)
			}
			if impl.LabelsOk(short) != impl.LabelsOk(l) || impl.LabelsText(short) != impl.LabelsText(l) {
				t.Errorf("%v, behind it %v: read", l, behind)
			}
			if !slices.Equal(whole, before) {
				t.Errorf("%v became %v", before, whole)
			}
		}
	}
}

// again holds the answers at short, which has room behind it, against those at l, which has none.
func again(t *testing.T, l, short []impl.Label, key string) {
	t.Helper()
	l = slices.Clip(l)
	v, ok := impl.LabelGet(l, key)
	v2, ok2 := impl.LabelGet(short, key)
	if v != v2 || ok != ok2 {
		t.Errorf("get %q of %v: %q %v", key, l, v2, ok2)
	}
	if !slices.Equal(impl.LabelDrop(l, key), impl.LabelDrop(short, key)) {
		t.Errorf("drop %q of %v", key, l)
	}
	set, ok := impl.LabelSet(l, key, "new")
	set2, ok2 := impl.LabelSet(short, key, "new")
	if ok != ok2 || !slices.Equal(set, set2) {
		t.Errorf("set %q of %v: %v %v", key, l, set2, ok2)
	}
}

// An answer shares no memory with its argument, not even behind its length, and the argument stays.
func TestAnswersAreNewMemory(t *testing.T) {
	answers := map[string]func([]impl.Label) []impl.Label{
		"set a new one":     func(l []impl.Label) []impl.Label { n, _ := impl.LabelSet(l, "c", "9"); return n },
		"set the last":      func(l []impl.Label) []impl.Label { n, _ := impl.LabelSet(l, "z", "9"); return n },
		"set one again":     func(l []impl.Label) []impl.Label { n, _ := impl.LabelSet(l, "b", "9"); return n },
		"set what is there": func(l []impl.Label) []impl.Label { n, _ := impl.LabelSet(l, "b", "1"); return n },
		"set no name":       func(l []impl.Label) []impl.Label { n, _ := impl.LabelSet(l, "B", "9"); return n },
		"drop one":          func(l []impl.Label) []impl.Label { return impl.LabelDrop(l, "b") },
		"drop the last":     func(l []impl.Label) []impl.Label { return impl.LabelDrop(l, "p") },
		"drop none":         func(l []impl.Label) []impl.Label { return impl.LabelDrop(l, "c") },
	}
	for what, answer := range answers {
		for _, l := range [][]impl.Label{full(), full()[:3], labels("p=1", "b=2"), labels("b=1", "b=1")} {
			short, whole := spare(l, labels("q=1", "r=2")...)
			before := slices.Clone(whole)
			got := answer(short)
			kept := slices.Clone(got)
			for i := range whole {
				whole[i] = impl.Label{Key: "changed", Value: "changed"}
			}
			if !slices.Equal(got, kept) {
				t.Errorf("%s: the answer changed with its argument", what)
			}
			copy(whole, before)
			room := got[:cap(got)]
			for i := range room {
				room[i] = impl.Label{Key: "x", Value: "x"}
			}
			if !slices.Equal(whole, before) {
				t.Errorf("%s: the argument changed with its answer", what)
			}
		}
	}
}
