package tests

import (
	"math/rand"
	"reflect"
	"regexp"
	"slices"
	"strings"
	"testing"

	"loop.example/g00119/impl"
)

// Promise 2: selectors come back of their text; one that never holds holds for nothing.

var (
	termHasForm  = regexp.MustCompile(`\A(` + namePattern + `)\z`)
	termLackForm = regexp.MustCompile(`\A!(` + namePattern + `)\z`)
	termIsForm   = regexp.MustCompile(`\A(` + namePattern + `)(!?=)(` + namePattern + `)\z`)
	termInForm   = regexp.MustCompile(`\A(` + namePattern + `) in \((` + namePattern + `(?: ` + namePattern + `){0,5})\)\z`)
)

// termOfText reads one term by its form alone.
func termOfText(s string) (impl.Term, bool) {
	if m := termHasForm.FindStringSubmatch(s); m != nil {
		return impl.Term{Kind: impl.TermHas, Key: m[1]}, true
	}
	if m := termLackForm.FindStringSubmatch(s); m != nil {
		return impl.Term{Kind: impl.TermLacks, Key: m[1]}, true
	}
	if m := termIsForm.FindStringSubmatch(s); m != nil {
		kind := map[string]int{"=": impl.TermIs, "!=": impl.TermNot}[m[3]]
		return impl.Term{Kind: kind, Key: m[1], Values: []string{m[4]}}, true
	}
	if m := termInForm.FindStringSubmatch(s); m != nil {
		values := strings.Split(m[3], " ")
		rises := slices.IsSorted(values) && len(slices.Compact(slices.Clone(values))) == len(values)
		return impl.Term{Kind: impl.TermIn, Key: m[1], Values: values}, rises
	}
	return impl.Term{}, false
}

// selectorOfText reads a whole text, without asking the program.
func selectorOfText(s string) ([]impl.Term, bool) {
	if s == "" {
		return nil, true
	}
	out := []impl.Term{}
	for _, part := range strings.Split(s, ",") {
		x, ok := termOfText(part)
		if !ok || len(out) == impl.MaxTerms {
			return nil, false
		}
		out = append(out, x)
	}
	return out, true
}

// terms makes a selector of a text that is right.
func terms(t *testing.T, s string) []impl.Term {
	t.Helper()
	sel, ok := selectorOfText(s)
	if !ok {
		t.Fatalf("%q is no selector's text", s)
	}
	return sel
}

func sameTerms(a, b []impl.Term) bool {
	return slices.EqualFunc(a, b, func(x, y impl.Term) bool {
		return x.Kind == y.Kind && x.Key == y.Key && slices.Equal(x.Values, y.Values)
	})
}

func copyTerms(sel []impl.Term) []impl.Term {
	out := slices.Clone(sel)
	for i := range out {
		out[i].Values = slices.Clone(out[i].Values)
	}
	return out
}

// eight has just MaxTerms terms, of eight keys and all kinds.
const eight = "a=1,b!=1,c in (1 2),d,!e,f=1,g!=1,h"

var longName = strings.Repeat("n", impl.MaxName)

// rightTexts are texts of selectors, with the edges that the document names.
var rightTexts = []string{
	"", "a", "!a", "a=b", "a!=b", "a in (b)", "a in (b c)", "a in (b c d e f g)", "a in (a10 a9)", "a in (a a-b a0 aa)",
	"a=b,a=b", "b,a", "a,!a", "z=1,a=1,z=1", "in", "!in", "in in (in)", "in=in", "a-b!=c-d", "0 in (0 1)",
	eight, "a,a,a,a,a,a,a,a",
	longName, "!" + longName, longName + "=" + longName, longName + "!=" + longName, longName + " in (" + longName + ")",
}

// notSelectors are lists that are not SelectorOk, by what is wrong with them.
func notSelectors() map[string][]impl.Term {
	one := func(kind int, key string, values ...string) []impl.Term {
		return []impl.Term{{Kind: kind, Key: key, Values: values}}
	}
	nine := []impl.Term{}
	for range impl.MaxTerms + 1 {
		nine = append(nine, impl.Term{Kind: impl.TermHas, Key: "a"})
	}
	last := append(slices.Clone(nine[:impl.MaxTerms-1]), impl.Term{Kind: impl.TermHas, Key: "A"})
	return map[string][]impl.Term{
		"one too many": nine, "the last is wrong": last, "the first is wrong": append(one(0, "a"), nine[:3]...),
		"the empty term": {{}}, "no kind": one(0, "a"), "a kind below": one(-1, "a"), "a kind past the last": one(6, "a"), "a far kind": one(1<<62, "a"),
		"no kind with a value": one(0, "a", "b"), "a kind past the last with a value": one(6, "a", "b"),
		"is no key": one(impl.TermIs, "", "b"), "is a wrong key": one(impl.TermIs, "A", "b"), "not a wrong key": one(impl.TermNot, "a=", "b"),
		"in a wrong key": one(impl.TermIn, "-a", "b"), "has a wrong key": one(impl.TermHas, "a-"), "lacks a wrong key": one(impl.TermLacks, "!a"), "has no key": one(impl.TermHas, ""), "lacks no key": one(impl.TermLacks, ""),
		"a key too long": one(impl.TermHas, longName+"n"), "a value too long": one(impl.TermIs, "a", longName+"n"),
		"is no value": one(impl.TermIs, "a"), "is an empty value": one(impl.TermIs, "a", ""), "is a wrong value": one(impl.TermIs, "a", "B"), "is two values": one(impl.TermIs, "a", "b", "c"),
		"not no value": one(impl.TermNot, "a"), "not an empty value": one(impl.TermNot, "a", ""), "not a wrong value": one(impl.TermNot, "a", "b-"), "not two values": one(impl.TermNot, "a", "b", "c"),
		"in no value": one(impl.TermIn, "a"), "in an empty value": one(impl.TermIn, "a", ""), "in a wrong value": one(impl.TermIn, "a", "b", "c d"), "in a wrong first value": one(impl.TermIn, "a", "-", "c"),
		"in alike": one(impl.TermIn, "a", "b", "b"), "in out of order": one(impl.TermIn, "a", "c", "b"), "in the last out of order": one(impl.TermIn, "a", "b", "d", "c"), "in the order of numbers": one(impl.TermIn, "a", "9", "10"),
		"in seven":    one(impl.TermIn, "a", "b", "c", "d", "e", "f", "g", "h"),
		"has a value": one(impl.TermHas, "a", "b"), "has an empty value": one(impl.TermHas, "a", ""), "lacks a value": one(impl.TermLacks, "a", "b"), "lacks two": one(impl.TermLacks, "a", "b", "c"),
	}
}

func TestSelectorConstants(t *testing.T) {
	if impl.MaxTerms != 8 || impl.TermIs != 1 || impl.TermNot != 2 || impl.TermIn != 3 || impl.TermHas != 4 || impl.TermLacks != 5 {
		t.Error("the constants of chapter 2")
	}
}

func TestSelectorComesBackOfItsText(t *testing.T) {
	for _, s := range rightTexts {
		sel := terms(t, s)
		if !impl.SelectorOk(sel) || impl.SelectorText(sel) != s {
			t.Errorf("%q: %v %q", s, impl.SelectorOk(sel), impl.SelectorText(sel))
		}
		if got, ok := impl.ParseSelector(s); !ok || !sameTerms(got, sel) {
			t.Errorf("%q: %v %v", s, got, ok)
		}
	}
}

func TestNoSelectors(t *testing.T) {
	for why, sel := range notSelectors() {
		if impl.SelectorOk(sel) || impl.SelectorText(sel) != "" || impl.Never(sel) {
			t.Errorf("%s: %v: %v %q %v", why, sel, impl.SelectorOk(sel), impl.SelectorText(sel), impl.Never(sel))
		}
		for _, l := range [][]impl.Label{nil, labels("a=b"), labels("a=c"), labels("b=b"), full()} {
			if impl.Matches(sel, l) {
				t.Errorf("%s: %v matches %v", why, sel, l)
			}
		}
	}
}

// What is wrong with a selector counts ahead of terms that never hold together.
func TestNeverOfWrongSelectors(t *testing.T) {
	clash := terms(t, "a,!a")
	for why, sel := range notSelectors() {
		for _, both := range [][]impl.Term{slices.Concat(clash, sel), slices.Concat(sel, clash)} {
			if impl.Never(both) {
				t.Errorf("%s: %v", why, both)
			}
		}
	}
}

// refusesText asks that a text is refused, with nothing beside it.
func refusesText(t *testing.T, s string) {
	t.Helper()
	if got, ok := impl.ParseSelector(s); ok || len(got) != 0 {
		t.Errorf("%.60q: %v %v", s, got, ok)
	}
}

func TestParseSelectorRefuses(t *testing.T) {
	for _, s := range []string{
		" ", ",", "a,", ",a", "a,,b", "!", "!!a", "! a", "a!", "=", "!=", "=b", "a=", "!=b", "a!=", "a==b", "a=b=c", "a!!=b", "a!==b", "a=!b", "!a=b", "!a!=b", "a!=b!=c", "a!=b=c",
		"a = b", "a =b", "a= b", "a != b", " a", "a ", "a\n", "\na", "a=b\n", "a=b;c=d", "a, b", "a ,b", "A", "é", "a=é", "\xff", "a=\x00",
		"a in ()", "a in (", "a in )", "a in", "a in ", "a in b", "a in b)", "a in (b", "a in(b)", "a  in (b)", "a in  (b)", "a in ( b)", "a in (b )", "a in (b  c)", "a in (b,c)", "a in (b\tc)",
		"a in (b))", "a in ((b)", "a in (b) ", "a in (b)c", "a in (b)=c", "a in (b in (c)", "a in (b) in (c)", " in (b)", "in (b)", "!a in (b)", "a=b in (c)", "a in (b=c)", "a IN (b)", "a not in (b)",
		"a in (c b)", "a in (b b)", "a in (9 10)", "a in (b d c)", "a in (b c d e f g h)", "a in (b c d e f g )", "a in (B)", "a in (b -)",
		eight + ",i", eight + ",", eight + "," + eight, longName + "n", "!" + longName + "n", "a=" + longName + "n", "a!=" + longName + "n", "a in (" + longName + "n)",
		strings.Repeat("a,", 100000), strings.Repeat(",", 100000), "a in (" + strings.Repeat("b ", 100000) + "b)", strings.Repeat("a in (", 100000), strings.Repeat("!=", 100000),
	} {
		refusesText(t, s)
	}
}

// Every text of up to six of these pieces is read as its form says.
func TestParseSelectorOfAllShortTexts(t *testing.T) {
	eachShortText(6, []string{"a", "b", "=", "!", ",", " in (", ")", " ", "("}, func(s string) { readsAsItsForm(t, s) })
}

// Every text that is one byte away from a right one is read as its form says.
func TestParseSelectorOfNearTexts(t *testing.T) {
	for _, s := range append(slices.Clone(rightTexts), "ab in (cd ef),!gh,ij!=kl,mn=op,qr") {
		eachNearText(s, "ab!=,() -A0\n", func(s string) { readsAsItsForm(t, s) })
	}
}

func readsAsItsForm(t *testing.T, s string) {
	t.Helper()
	want, ok := selectorOfText(s)
	got, gotOk := impl.ParseSelector(s)
	if gotOk != ok || !sameTerms(got, want) {
		t.Fatalf("%q: %v %v", s, got, gotOk)
	}
	if ok && impl.SelectorText(got) != s {
		t.Fatalf("%q came back as %q", s, impl.SelectorText(got))
	}
}

func TestMatches(t *testing.T) {
	for _, c := range []struct {
		sel  string
		l    []impl.Label
		want bool
	}{
		{"", nil, true}, {"", labels("a=b"), true}, {"", full(), true},
		{"a=b", labels("a=b"), true}, {"a=b", labels("a=c"), false}, {"a=b", labels("b=b"), false}, {"a=b", nil, false}, {"a=b", labels("b=a"), false},
		{"a!=b", labels("a=b"), false}, {"a!=b", labels("a=c"), true}, {"a!=b", labels("b=b"), true}, {"a!=b", nil, true},
		{"a in (b)", labels("a=b"), true}, {"a in (b)", labels("a=c"), false}, {"a in (b)", nil, false},
		{"a in (b d f)", labels("a=b"), true}, {"a in (b d f)", labels("a=d"), true}, {"a in (b d f)", labels("a=f"), true}, {"a in (b d f)", labels("a=c"), false}, {"a in (b d f)", labels("b=b"), false},
		{"a in (1 2 3 4 5 6)", labels("a=1"), true}, {"a in (1 2 3 4 5 6)", labels("a=6"), true}, {"a in (1 2 3 4 5 6)", labels("a=7"), false}, {"a in (1 2 3 4 5 6)", labels("a=12"), false},
		{"a", labels("a=b"), true}, {"a", labels("aa=b"), false}, {"a", nil, false}, {"a", labels("b=a"), false},
		{"!a", labels("a=b"), false}, {"!a", labels("aa=b"), true}, {"!a", nil, true},
		{"p=8,b=1", full(), true}, {"p=8,b=2", full(), false}, {"p=9,b=1", full(), false}, {"p,!q,h in (4 5),j!=4", full(), true}, {"p,!q,h in (4 5),j!=5", full(), false}, {"p,!n", full(), false},
		{"b=1,d=2,f=3,h=4,j=5,l=6,n=7,p=8", full(), true}, {"b=1,d=2,f=3,h=4,j=5,l=6,n=7,p=7", full(), false}, {"a=1,d=2,f=3,h=4,j=5,l=6,n=7,p=8", full(), false},
		{"a=b,a=b", labels("a=b"), true}, {"a!=c,a!=d", labels("a=b"), true}, {"a!=c,a!=b", labels("a=b"), false}, {"a,!a", labels("a=b"), false}, {"a,!a", nil, false},
	} {
		if got := impl.Matches(terms(t, c.sel), c.l); got != c.want {
			t.Errorf("%q of %v: %v", c.sel, c.l, got)
		}
	}
}

// Labels that are not right are matched by nothing, not even by what holds for all.
func TestMatchesOfWrongLabels(t *testing.T) {
	for why, l := range notLabels() {
		for _, s := range []string{"", "a", "!a", "a=1", "a!=1", "b!=9", "!zz", "a in (1 2)"} {
			if impl.Matches(terms(t, s), l) {
				t.Errorf("%s: %q matches %v", why, s, l)
			}
		}
	}
}

func TestNever(t *testing.T) {
	for s, want := range map[string]bool{
		"": false, "a": false, "!a": false, "a=b": false, "a!=b": false, "a in (b)": false, "a in (b c d e f g)": false,
		"a,a": false, "a=b,a=b": false, "a=b,a=c": true, "a=b,b=c": false, "a=b,a!=b": true, "a!=b,a=b": true, "a=b,a!=c": false, "a=b,a": false, "a=b,!a": true, "!a,a=b": true,
		"a!=b,a!=c": false, "a!=b,!a": false, "a!=b,a": false, "a,!a": true, "!a,a": true, "!a,!a": false, "a,!b": false,
		"a in (b c),a=b": false, "a in (b c),a=d": true, "a=d,a in (b c)": true, "a in (b c),a!=b": false, "a in (b),a!=b": true, "a!=b,a in (b)": true, "a in (b c),!a": true, "a in (b c),a": false,
		"a in (b c),a in (c d)": false, "a in (b c),a in (d e)": true, "a in (b c d e f g),a in (g h)": false, "a in (b c d e f g),a in (h i)": true,
		"a in (b c),a!=b,a!=c": true, "a!=b,a!=c,a in (b c)": true, "a in (b c),a!=b,b!=c": false, "a in (b c d e f g),a!=b,a!=c,a!=d,a!=e,a!=f,a!=g": true,
		"a in (b c d e f g),a!=b,a!=c,a!=d,a!=e,a!=f": false, "a in (b c d e f g),a!=b,a!=c,a!=d,a!=e,a!=f,a!=g,a": true,
		"a in (b c),a in (c d),a in (b d)": true, "a in (b c),a in (c d),a in (b c d)": false, "a in (b c),a in (c d),a!=c": true, "a in (b c),a in (c d),a!=b,a!=d": false,
		"a!=0,a!=1,a!=2,a!=3,a!=4,a!=5,a!=6,a": false, "a!=0,a!=1,a!=2,a!=3,a!=4,a!=5,a!=6,!a": false,
		"x,b=1,c!=2,!x": true, "b=1,c=2,d=3,b=2": true, "x,y,z,!w,b=1,c=1,d=1,e=1": false, eight: false, "a=1,b=2,c=3,d=4,e=5,f=6,g=7,g!=7": true, "a,b,c,d,e,f,g,h": false,
		longName + "=" + longName + "," + longName + "!=" + longName: true,
	} {
		if got := impl.Never(terms(t, s)); got != want {
			t.Errorf("%q: %v", s, got)
		}
	}
}

// With MaxTerms terms of as many keys, one needs no more labels than there may be.
func TestNeverOfManyKeys(t *testing.T) {
	sel := terms(t, "b=1,d=2,f=3,h=4,j=5,l=6,n=7,p=8")
	if impl.Never(sel) || !impl.Matches(sel, full()) {
		t.Error("eight keys")
	}
}

// allLabels are all labels of the keys a and b with these values, or without.
func allLabels(values ...string) [][]impl.Label {
	out := [][]impl.Label{}
	for _, v := range append([]string{""}, values...) {
		for _, w := range append([]string{""}, values...) {
			l := []impl.Label{}
			if v != "" {
				l = append(l, labels("a="+v)...)
			}
			if w != "" {
				l = append(l, labels("b="+w)...)
			}
			out = append(out, l)
		}
	}
	return out
}

// holdsByItsWords tells one term by the document's words, without asking the program.
func holdsByItsWords(x impl.Term, l []impl.Label) bool {
	is, has := false, false
	for _, y := range l {
		has = has || y.Key == x.Key
		for _, v := range x.Values {
			is = is || y == impl.Label{Key: x.Key, Value: v}
		}
	}
	return []bool{impl.TermIs: is, impl.TermNot: !is, impl.TermIn: is, impl.TermHas: has, impl.TermLacks: !has}[x.Kind]
}

// againstAllLabels holds Matches against the document's words, and Never against all labels that tell terms of the values x, y, z apart.
func againstAllLabels(t *testing.T, sel []impl.Term, all [][]impl.Label) {
	t.Helper()
	never := true
	for _, l := range all {
		want := true
		for _, x := range sel {
			want = want && holdsByItsWords(x, l)
		}
		if impl.Matches(sel, l) != want {
			t.Fatalf("%v of %v: %v", sel, l, !want)
		}
		never = never && !want
	}
	if impl.Never(sel) != never {
		t.Fatalf("%v: never is %v", sel, !never)
	}
}

// smallTerms are all terms of the keys a and b and the values x, y, z.
func smallTerms(t *testing.T) []impl.Term {
	t.Helper()
	out := []impl.Term{}
	for _, k := range []string{"a", "b"} {
		for _, s := range []string{"k", "!k", "k=x", "k=y", "k=z", "k!=x", "k!=y", "k!=z", "k in (x)", "k in (x y)", "k in (x z)", "k in (y z)", "k in (x y z)"} {
			out = append(out, terms(t, strings.Replace(s, "k", k, 1))...)
		}
	}
	return out
}

func TestSelectorsOfUpToThreeTerms(t *testing.T) {
	small, all := smallTerms(t), allLabels("x", "y", "z", "w")
	againstAllLabels(t, nil, all)
	for _, p := range small {
		againstAllLabels(t, []impl.Term{p}, all)
		for _, q := range small {
			againstAllLabels(t, []impl.Term{p, q}, all)
			for _, r := range small {
				againstAllLabels(t, []impl.Term{p, q, r}, all)
			}
		}
	}
}

func TestSelectorsOfManyTerms(t *testing.T) {
	rnd := rand.New(rand.NewSource(2))
	small, all := smallTerms(t), allLabels("x", "y", "z", "w")
	for range 20000 {
		sel := []impl.Term{}
		for range 4 + rnd.Intn(impl.MaxTerms-3) {
			sel = append(sel, small[rnd.Intn(len(small))])
		}
		againstAllLabels(t, sel, all)
		readsAsItsForm(t, impl.SelectorText(sel))
	}
}

// What lies behind the length of a selector, or of its Values, is neither read nor written.
func TestBehindTheLengthOfSelectors(t *testing.T) {
	for _, s := range rightTexts {
		sel := terms(t, s)
		room := append(copyTerms(sel), terms(t, "a=b,a=c,a,!a")...)
		for i := range sel {
			room[i].Values = append(room[i].Values, "Z", "a")[:len(sel[i].Values)]
		}
		before := fullTerms(room)
		short := room[:len(sel)]
		for _, l := range [][]impl.Label{nil, labels("a=b"), labels("a=c", "b=2"), full()} {
			if impl.Matches(short, l) != impl.Matches(sel, l) {
				t.Errorf("%q of %v: read behind", s, l)
			}
		}
		if !impl.SelectorOk(short) || impl.SelectorText(short) != s || impl.Never(short) != impl.Never(sel) {
			t.Errorf("%q: read behind", s)
		}
		if !reflect.DeepEqual(fullTerms(room), before) {
			t.Errorf("%q: written", s)
		}
	}
}

// fullTerms copies terms with all the room behind their Values.
func fullTerms(sel []impl.Term) []impl.Term {
	out := slices.Clone(sel)
	for i, x := range out {
		out[i].Values = slices.Clone(x.Values[:cap(x.Values)])
	}
	return out
}

// Labels behind the length of a list are not matched.
func TestMatchesBehindTheLabels(t *testing.T) {
	for _, l := range [][]impl.Label{labels(), labels("a=1"), full()} {
		short, whole := spare(l, labels("x=y", "b=-")...)
		before := slices.Clone(whole)
		if impl.Matches(terms(t, "x"), short) || !impl.Matches(terms(t, "!x"), short) || !slices.Equal(whole, before) {
			t.Errorf("%v", l)
		}
	}
}

// The lists of what is read share no memory with each other.
func TestParsedTermsShareNothing(t *testing.T) {
	s := "a in (b c),a in (b c),d=e,f!=g,h,!i"
	got, _ := impl.ParseSelector(s)
	for i := range got {
		room := got[i].Values[:cap(got[i].Values)]
		kept := copyTerms(got)
		for j := range room {
			room[j] = "written"
		}
		for j := range got {
			if j != i && !slices.Equal(got[j].Values, kept[j].Values) {
				t.Errorf("the values of %d changed with those of %d", j, i)
			}
		}
	}
	if again, ok := impl.ParseSelector(s); !ok || impl.SelectorText(again) != s {
		t.Errorf("%v %v", again, ok)
	}
}
