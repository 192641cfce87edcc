package tests

import (
	"maps"
	"math"
	"math/rand"
	"reflect"
	"regexp"
	"slices"
	"strconv"
	"strings"
	"testing"

	"loop.example/g00119/impl"
)

// Promise 5: the differences of two maps make the other one, where no value between is too great; what can not be done changes nothing.

var (
	placeForm = regexp.MustCompile(`\A(?:0|[1-9][0-9]{0,8})\z`)
	opForm    = regexp.MustCompile(`(?s)\A(?:(drop) ([^ ]*)|(set|need) ([^ ]*) (.*))\z`)
)

// These make ops without asking the program; the texts of a Path stand between slashes, and of no Path nothing stands.

func set(path string, v impl.Value) impl.Op {
	return impl.Op{Kind: impl.OpSet, Path: steps(path), Value: v}
}

func drop(path string) impl.Op {
	return impl.Op{Kind: impl.OpDrop, Path: steps(path)}
}

func need(path string, v impl.Value) impl.Op {
	return impl.Op{Kind: impl.OpNeed, Path: steps(path), Value: v}
}

func steps(path string) []string {
	if path == "" {
		return nil
	}
	return strings.Split(path, "/")
}

// valueIn is the value with this text, which the tests read themselves.
func valueIn(s string) impl.Value {
	v, ok := valueOfText(s)
	if !ok {
		panic("the test is wrong: " + s)
	}
	return v
}

// The document's words once more.

func isStep(s string) bool { return isName.MatchString(s) || placeForm.MatchString(s) }

func isOp(op impl.Op) bool {
	if len(op.Path) < 1 || len(op.Path) > 5 {
		return false
	}
	for _, s := range op.Path {
		if !isStep(s) {
			return false
		}
	}
	if op.Kind == impl.OpDrop {
		return isZero(op.Value)
	}
	return (op.Kind == impl.OpSet || op.Kind == impl.OpNeed) && isValue(op.Value)
}

func isPatch(list []impl.Op) bool {
	for _, op := range list {
		if !isOp(op) {
			return false
		}
	}
	return len(list) <= 20
}

// byKey has the Kids of a map, or of a list, by the texts that lead to them.
func byKey(v impl.Value) map[string]impl.Value {
	out := map[string]impl.Value{}
	for i, k := range v.Kids {
		if v.Kind == impl.ValMap {
			out[v.Keys[i]] = k
		} else {
			out[strconv.Itoa(i)] = k
		}
	}
	return out
}

// ofKeys makes a map, or a list, of Kids by their texts; of a list some may be missing.
func ofKeys(kind int, kids map[string]impl.Value) impl.Value {
	out := impl.Value{Kind: kind}
	if kind == impl.ValMap {
		out.Keys = slices.Sorted(maps.Keys(kids))
		for _, key := range out.Keys {
			out.Kids = append(out.Kids, kids[key])
		}
		return out
	}
	for i := range len(kids) + 1 {
		if kid, ok := kids[strconv.Itoa(i)]; ok {
			out.Kids = append(out.Kids, kid)
		}
	}
	return out
}

// doneAt does op, of whose Path this is left, at v.
func doneAt(v impl.Value, path []string, op impl.Op) (impl.Value, bool) {
	if len(path) == 0 && op.Kind == impl.OpNeed {
		return v, alike(v, op.Value)
	}
	if v.Kind != impl.ValMap && v.Kind != impl.ValList {
		return v, false
	}
	kids := byKey(v)
	kid, there := kids[path[0]]
	places := v.Kind == impl.ValList && path[0] == strconv.Itoa(len(kids))
	switch {
	case there && (len(path) > 1 || op.Kind == impl.OpNeed):
		done, ok := doneAt(kid, path[1:], op)
		kids[path[0]] = done
		return ofKeys(v.Kind, kids), ok
	case len(path) == 1 && op.Kind == impl.OpSet && (there || places || v.Kind == impl.ValMap && isName.MatchString(path[0])):
		kids[path[0]] = op.Value
	case len(path) == 1 && op.Kind == impl.OpDrop && there:
		delete(kids, path[0])
	default:
		return v, false
	}
	return ofKeys(v.Kind, kids), true
}

// patchedByWords is what Patch must answer.
func patchedByWords(v impl.Value, list []impl.Op) (impl.Value, int) {
	if !isValue(v) || !isPatch(list) {
		return v, 0
	}
	behind := v
	for i, op := range list {
		var ok bool
		if behind, ok = doneAt(behind, op.Path, op); !ok || !isValue(behind) {
			return v, i
		}
	}
	return behind, -1
}

// patchesRight asks Patch for what the words say, and tells the answer.
func patchesRight(t *testing.T, v impl.Value, list []impl.Op) (impl.Value, int) {
	t.Helper()
	want, wantBad := patchedByWords(v, list)
	keptV, keptList := copied(v), copyOps(list)
	got, bad := impl.Patch(v, list)
	if bad != wantBad || !alike(got, want) || !impl.SameValue(got, want) {
		t.Fatalf("%.200v of %.300v: %d %.200v, not %d %.200v", list, v, bad, got, wantBad, want)
	}
	if !alike(v, keptV) || !sameOps(list, keptList) {
		t.Fatalf("%.200v of %.300v: an argument was changed", list, v)
	}
	return got, bad
}

func copyOps(list []impl.Op) []impl.Op {
	out := []impl.Op{}
	for _, op := range list {
		out = append(out, impl.Op{Kind: op.Kind, Path: slices.Clone(op.Path), Value: copied(op.Value)})
	}
	return out
}

func sameOps(a, b []impl.Op) bool {
	return slices.EqualFunc(a, b, func(x, y impl.Op) bool {
		return x.Kind == y.Kind && slices.Equal(x.Path, y.Path) && alike(x.Value, y.Value)
	})
}

// textOfOps writes ops down, whether they are right or not, if only their values are.
func textOfOps(list []impl.Op) string {
	s := ""
	for _, op := range list {
		s += []string{"none", "set", "drop", "need"}[op.Kind] + " " + strings.Join(op.Path, "/")
		if op.Kind != impl.OpDrop {
			s += " " + impl.ValueText(op.Value)
		}
		s += "\n"
	}
	return s
}

// patchOfText reads a text by forms.
func patchOfText(s string) ([]impl.Op, bool) {
	list := []impl.Op{}
	for s != "" {
		line, rest, ok := strings.Cut(s, "\n")
		m := opForm.FindStringSubmatch(line)
		if !ok || m == nil {
			return nil, false
		}
		v, right := valueOfText(m[5])
		if m[1] != "" {
			list = append(list, impl.Op{Kind: impl.OpDrop, Path: strings.Split(m[2], "/")})
		} else if right {
			list = append(list, impl.Op{Kind: map[string]int{"set": impl.OpSet, "need": impl.OpNeed}[m[3]], Path: strings.Split(m[4], "/"), Value: v})
		} else {
			return nil, false
		}
		s = rest
	}
	return list, isPatch(list)
}

// readsPatchAsItsForm asks that s is read if it is a patch's text, and refused if not, with nothing beside it.
func readsPatchAsItsForm(t *testing.T, s string) {
	t.Helper()
	want, ok := patchOfText(s)
	if !ok {
		want = nil
	}
	got, gotOk := impl.ParsePatch(s)
	if gotOk != ok || !sameOps(got, want) {
		t.Fatalf("%.200q: %v %.200v, not %v %.200v", s, gotOk, got, ok, want)
	}
	if ok && (impl.PatchText(got) != s || !impl.PatchOk(got)) {
		t.Fatalf("%.200q came back as %.200q", s, impl.PatchText(got))
	}
}

func TestPatchConstants(t *testing.T) {
	if impl.MaxOps != 20 || impl.OpSet != 1 || impl.OpDrop != 2 || impl.OpNeed != 3 {
		t.Error("the constants of chapter 5")
	}
}

const nineDigits = "999999999"

// rightSteps are names, or numbers, or both.
var rightSteps = []string{"a", "0", "9", "12", "01", "00", nineDigits, nineDigits + "0", "1000000000", "4294967296", "18446744073709551616", "09", "a-b", "a--b", "0-1", "1-0", "x1", "true", "set", longName, strings.Repeat("9", 20), strings.Repeat("0", 20)}

// wrongSteps are neither.
var wrongSteps = []string{"", "-", "-1", "-0", "1-", "-a", "a-", "+1", "A", "a_b", "a b", " a", "a ", " ", "a/b", "/", "a\n", "\n", "\x00", "\xff", "é", "1.0", "0x_1", "١", longName + "n", strings.Repeat("9", 21), strings.Repeat("0", 21), strings.Repeat("1", 100000)}

// rightOps are of all kinds, with the edges that the document names.
func rightOps() []impl.Op {
	out := []impl.Op{}
	for _, s := range rightSteps {
		out = append(out, set(s, numOf(1)), drop(s), need(s, numOf(1)), set("a/"+s, listOf()), drop(s+"/a"), need("0/"+s+"/b", mapOf("")))
	}
	for _, x := range rightValues() {
		out = append(out, set("a", x.v), need("a/b", x.v))
	}
	for _, path := range []string{"a", "a/b", "a/b/c", "0/1/2/3", "a/b/c/d/e", "0/0/0/0/0"} {
		out = append(out, set(path, textOf("")), drop(path), need(path, boolOf(0)))
	}
	empty := drop("a")
	empty.Value.Keys, empty.Value.Kids = []string{}, []impl.Value{}
	return append(out, empty)
}

// wrongOps are none, by what is wrong with them.
func wrongOps() map[string]impl.Op {
	out := map[string]impl.Op{}
	for _, s := range wrongSteps {
		for i := range 5 {
			path := slices.Repeat([]string{"a"}, 5)
			path[i] = s
			out["a step "+strconv.Quote(s[:min(len(s), 30)])+", at "+strconv.Itoa(i)] = impl.Op{Kind: impl.OpDrop, Path: path}
			out["a step "+strconv.Quote(s[:min(len(s), 30)])+", at the end of "+strconv.Itoa(i)] = impl.Op{Kind: impl.OpSet, Path: path[:i+1], Value: numOf(1)}
		}
	}
	for _, kind := range []int{0, -1, 4, 5, math.MaxInt, math.MinInt} {
		out["a kind of "+strconv.Itoa(kind)] = impl.Op{Kind: kind, Path: []string{"a"}, Value: numOf(1)}
		out["a kind of "+strconv.Itoa(kind)+" without a Value"] = impl.Op{Kind: kind, Path: []string{"a"}}
	}
	for why, v := range wrongValues() {
		out["set: "+why] = set("a", v)
		out["need: "+why] = need("a", v)
		if !isZero(v) {
			out["drop: "+why] = impl.Op{Kind: impl.OpDrop, Path: []string{"a"}, Value: v}
		}
	}
	for _, x := range rightLeaves() {
		out["drop with a Value: "+x.s] = impl.Op{Kind: impl.OpDrop, Path: []string{"a"}, Value: x.v}
	}
	for what, op := range map[string]impl.Op{"set": set("", numOf(1)), "drop": drop(""), "need": need("", numOf(1))} {
		for _, path := range [][]string{nil, {}, slices.Repeat([]string{"a"}, 6), slices.Repeat([]string{"0"}, 7), slices.Repeat([]string{"a"}, 100000)} {
			op.Path = path
			out[what+" with a Path of "+strconv.Itoa(len(path))+strconv.FormatBool(path == nil)] = op
		}
	}
	return out
}

func TestPatchOk(t *testing.T) {
	if !impl.PatchOk(nil) || !impl.PatchOk([]impl.Op{}) {
		t.Error("no ops are no patch")
	}
	for _, op := range rightOps() {
		if !isOp(op) {
			t.Fatalf("%.200v: the test is wrong", op)
		}
		for n := range 20 {
			if list := slices.Repeat([]impl.Op{op}, n+1); !impl.PatchOk(list) {
				t.Errorf("%d times %.200v", n+1, op)
			}
		}
		for _, n := range []int{21, 22, 100} {
			if list := slices.Repeat([]impl.Op{op}, n); impl.PatchOk(list) || impl.PatchText(list) != "" {
				t.Errorf("%d times %.200v", n, op)
			}
		}
	}
	for why, op := range wrongOps() {
		if isOp(op) {
			t.Fatal(why, "the test is wrong")
		}
		for _, list := range [][]impl.Op{{op}, {op, drop("a")}, {drop("a"), op}, {drop("a"), op, drop("a")}, append(slices.Repeat([]impl.Op{drop("a")}, 19), op)} {
			if impl.PatchOk(list) || impl.PatchText(list) != "" {
				t.Errorf("%s, of %d: %v %.60q", why, len(list), impl.PatchOk(list), impl.PatchText(list))
			}
		}
	}
}

// What is no patch is not done, and neither is anything to what is no value; v comes back, and 0.
func TestPatchRefuses(t *testing.T) {
	v := valueIn("{a:[1,{b:2}],b:{a:1}}")
	for why, op := range wrongOps() {
		for _, list := range [][]impl.Op{{op}, {drop("b"), op}, {drop("none"), op}, append(slices.Repeat([]impl.Op{need("b/a", numOf(1))}, 19), op)} {
			if got, bad := impl.Patch(v, list); bad != 0 || !alike(got, v) {
				t.Errorf("%s, of %d: %d %.200v", why, len(list), bad, got)
			}
		}
	}
	patchesRight(t, v, slices.Repeat([]impl.Op{need("b/a", numOf(1))}, 20))
	patchesRight(t, v, slices.Repeat([]impl.Op{need("b/a", numOf(1))}, 21))
	patchesRight(t, v, append(slices.Repeat([]impl.Op{need("b/a", numOf(1))}, 20), drop("none")))
	for why, w := range wrongValues() {
		for _, list := range [][]impl.Op{nil, {drop("a")}, {set("0", numOf(1)), drop("none")}, {drop("none"), {}}, slices.Repeat([]impl.Op{drop("a")}, 21)} {
			if got, bad := impl.Patch(w, list); bad != 0 || !alike(got, w) {
				t.Errorf("%s: %d %.200v", why, bad, got)
			}
		}
	}
}

// deepest has a 1 at a depth of 6.
const deepest = "{a:{a:{a:{a:{a:1}}}}}"

func TestPatch(t *testing.T) {
	full := "[" + strings.Repeat("7,", 298) + "7]"
	for _, x := range []struct {
		v, patch, want string
		bad            int
	}{
		{"{}", "", "{}", -1}, {"5", "", "5", -1}, {full, "", full, -1}, {deepest, "", deepest, -1},
		// of a map
		{"{}", "set a 1\n", "{a:1}", -1}, {"{b:1}", "set a 2\n", "{a:2,b:1}", -1}, {"{b:1}", "set c 2\n", "{b:1,c:2}", -1}, {"{a:1,c:3}", "set b []\n", "{a:1,b:[],c:3}", -1}, {"{a:1}", "set a {b:2}\n", "{a:{b:2}}", -1}, {"{a:[1,2]}", "set a \"x\"\n", `{a:"x"}`, -1}, {"{a:1}", "set a 1\n", "{a:1}", -1},
		{"{}", "set 0 1\n", "{0:1}", -1}, {"{}", "set 12 1\n", "{12:1}", -1}, {"{a:1}", "set 0 1\nset 01 2\nset 1 3\nset 9999999999 4\n", "{0:1,01:2,1:3,9999999999:4,a:1}", -1}, {"{10:1}", "set 9 2\n", "{10:1,9:2}", -1}, {"{}", "set " + longName + " 1\n", "{" + longName + ":1}", -1},
		{"{a:1,b:2,c:3}", "drop a\n", "{b:2,c:3}", -1}, {"{a:1,b:2,c:3}", "drop b\n", "{a:1,c:3}", -1}, {"{a:1,b:2,c:3}", "drop c\n", "{a:1,b:2}", -1}, {"{a:1}", "drop a\n", "{}", -1}, {"{01:1}", "drop 01\n", "{}", -1}, {"{}", "drop a\n", "", 0}, {"{a:1,c:2}", "drop b\n", "", 0}, {"{a:1}", "drop 0\n", "", 0}, {"{1:1}", "drop 01\n", "", 0}, {"{1:1}", "drop 0\n", "", 0},
		{"{a:1}", "need a 1\n", "{a:1}", -1}, {"{a:1}", "need a 2\n", "", 0}, {"{a:1}", "need a true\n", "", 0}, {"{a:1}", "need a \"1\"\n", "", 0}, {"{a:[]}", "need a {}\n", "", 0}, {"{a:{b:[1,{}]}}", "need a {b:[1,{}]}\n", "{a:{b:[1,{}]}}", -1}, {"{a:{b:[1,{}]}}", "need a {b:[1,[]]}\n", "", 0}, {"{a:{b:1}}", "need a {b:1,c:2}\n", "", 0}, {"{a:1}", "need b 1\n", "", 0}, {"{a:1}", "need 0 1\n", "", 0}, {`{a:""}`, "need a \"\"\n", `{a:""}`, -1}, {"{a:{b:1}}", "need a/b 1\n", "{a:{b:1}}", -1}, {"{a:{b:1}}", "need a/b {}\n", "", 0},
		// of a list
		{"[]", "set 0 1\n", "[1]", -1}, {"[]", "set 1 1\n", "", 0}, {"[1,2]", "set 0 9\n", "[9,2]", -1}, {"[1,2]", "set 1 9\n", "[1,9]", -1}, {"[1,2]", "set 2 9\n", "[1,2,9]", -1}, {"[1,2]", "set 3 9\n", "", 0}, {"[1,2]", "set 02 9\n", "", 0}, {"[1,2]", "set 00 9\n", "", 0}, {"[1,2]", "set a 9\n", "", 0}, {"[1,2]", "set 1000000000 9\n", "", 0}, {"[1,2]", "set 4294967296 9\n", "", 0}, {"[1,2]", "set 18446744073709551616 9\n", "", 0}, {"[1,2]", "set 18446744073709551618 9\n", "", 0},
		{"[1,2,3]", "drop 0\n", "[2,3]", -1}, {"[1,2,3]", "drop 1\n", "[1,3]", -1}, {"[1,2,3]", "drop 2\n", "[1,2]", -1}, {"[1]", "drop 0\n", "[]", -1}, {"[1,2,3]", "drop 3\n", "", 0}, {"[1,2,3]", "drop 4\n", "", 0}, {"[1,2,3]", "drop 00\n", "", 0}, {"[1,2,3]", "drop a\n", "", 0}, {"[]", "drop 0\n", "", 0}, {"[1,2,3]", "drop 18446744073709551616\n", "", 0},
		{"[1,2,3]", "need 1 2\n", "[1,2,3]", -1}, {"[1,2,3]", "need 1 3\n", "", 0}, {"[1,2,3]", "need 3 3\n", "", 0}, {"[1,2,3]", "need 01 2\n", "", 0}, {"[1,2,3]", "need a 2\n", "", 0}, {"[1,[2,3]]", "need 1/1 3\n", "[1,[2,3]]", -1},
		{"[0,1,2,3,4,5,6,7,8,9]", "set 10 10\nset 11 11\ndrop 10\nneed 10 11\n", "[0,1,2,3,4,5,6,7,8,9,11]", -1},
		// deeper
		{"{a:[1,{b:{}}]}", "set a/1/b/c 1\n", "{a:[1,{b:{c:1}}]}", -1}, {"{a:[1,{b:{}}]}", "drop a/1/b\n", "{a:[1,{}]}", -1}, {"{a:[1,{b:{}}]}", "set a/2 2\n", "{a:[1,{b:{}},2]}", -1}, {"{a:[1,{b:{}}]}", "set a/2/b 2\n", "", 0}, {"{a:[1,{b:{}}]}", "set a/a 2\n", "", 0}, {"{a:[1,{b:{}}]}", "set a/1/0 2\n", "{a:[1,{0:2,b:{}}]}", -1}, {"{a:[1,{b:{}}]}", "set a/1/c/d 2\n", "", 0}, {"{a:[1,{b:{}}]}", "drop a/1/b/c\n", "", 0}, {"{a:[1,{b:{}}]}", "drop a/1/c\n", "", 0}, {"{a:[1,{b:{}}]}", "drop a/2/b\n", "", 0}, {"{a:[1,{b:{}}]}", "drop b/1/b\n", "", 0}, {"{a:[[1],[2]]}", "set a/1/1 3\nset a/0/0 4\n", "{a:[[4],[2,3]]}", -1},
		{deepest, "set a/a/a/a/a 2\n", "{a:{a:{a:{a:{a:2}}}}}", -1}, {deepest, "set a/a/a/a/b {}\n", "{a:{a:{a:{a:{a:1,b:{}}}}}}", -1}, {deepest, "drop a/a/a/a/a\n", "{a:{a:{a:{a:{}}}}}", -1}, {deepest, "need a/a/a/a/a 1\n", deepest, -1}, {deepest, "need a/a/a/a/a 2\n", "", 0},
		// where nothing has Kids
		{"5", "set 0 1\n", "", 0}, {"5", "set a 1\n", "", 0}, {"5", "drop 0\n", "", 0}, {"5", "need 5 5\n", "", 0}, {`"a"`, "set 0 1\n", "", 0}, {`"a"`, "set a 1\n", "", 0}, {"true", "set 0 1\n", "", 0}, {"{a:5}", "set a/0 1\n", "", 0}, {"{a:5}", "set a/a 1\n", "", 0}, {"{a:5}", "drop a/0\n", "", 0}, {"{a:5}", "need a/0 5\n", "", 0}, {`{a:""}`, "set a/0 1\n", "", 0}, {"{a:false}", "set a/0 1\n", "", 0}, {"[5]", "set 0/0 1\n", "", 0}, {"[5]", "set 1/0 1\n", "", 0}, {"[]", "set 0/0 1\n", "", 0}, {"{}", "set a/0 1\n", "", 0}, {"{}", "set a/b/c/d/e 1\n", "", 0},
		// one behind the other
		{"{}", "set a {}\nset a/b []\nset a/b/0 {}\nset a/b/0/c 1\nneed a {b:[{c:1}]}\n", "{a:{b:[{c:1}]}}", -1}, {"{}", "set a/b []\nset a {}\n", "", 0}, {"{}", "set a {}\nset b/a 1\n", "", 1}, {"{a:1}", "need a 1\ndrop a\nneed a 1\n", "", 2}, {"{a:1}", "drop a\nset a 2\nneed a 2\n", "{a:2}", -1}, {"{a:1}", "set a 2\nneed a 1\n", "", 1}, {"[1,2,3]", "drop 0\ndrop 0\ndrop 0\ndrop 0\n", "", 3}, {"[1,2,3]", "drop 0\ndrop 1\ndrop 1\n", "", 2}, {"[]", "set 0 0\nset 1 1\nset 3 3\nset 2 2\n", "", 2}, {"{a:{b:1}}", "set a 1\nset a/b 2\n", "", 1}, {"{a:1}", "set a []\nset a/0 2\nset a/b 2\nset a/1 2\n", "", 2}, {"{a:1,b:2}", "drop a\ndrop b\ndrop c\nset a 1\n", "", 2},
		{"[1]", strings.Repeat("drop 0\nset 0 1\n", 10), "[1]", -1}, {"[1]", strings.Repeat("drop 0\nset 0 1\n", 9) + "drop 0\ndrop 0\n", "", 19},
		// too deep, or too great
		{deepest, "set a/a/a/a/a [1]\n", "", 0}, {deepest, "set a/a/a/a [[1]]\n", "", 0}, {deepest, "set a/a/a/a [1]\n", "{a:{a:{a:{a:[1]}}}}", -1}, {"{}", "set a [[[[[]]]]]\n", "{a:[[[[[]]]]]}", -1}, {"{}", "set a [[[[[[]]]]]]\n", "", 0}, {"{}", "need b 1\nset a [[[[[[]]]]]]\n", "", 0}, {"{b:1}", "need b 1\nset a [[[[[[]]]]]]\n", "", 1}, {deepest, "set a/a/a/a/a [1]\ndrop a\n", "", 0}, {deepest, "set b 1\nset a/a/a/a/a {}\nset a/a/a/a/a {a:1}\nset a/a/a/a/a 1\n", "", 2}, {deepest, "drop a\nset a {a:{a:{a:[[]]}}}\n", "{a:{a:{a:{a:[[]]}}}}", -1},
		{full, "set 299 1\n", "", 0}, {full, "set 299 1\ndrop 0\n", "", 0}, {full, "drop 0\nset 298 1\n", "[" + strings.Repeat("7,", 298) + "1]", -1}, {full, "set 298 1\n", "[" + strings.Repeat("7,", 298) + "1]", -1}, {full, "set 0 [1]\n", "", 0}, {full, "set 0 []\n", "[[]," + strings.Repeat("7,", 297) + "7]", -1}, {full, "drop 9\nset 0 [1]\nset 298 1\n", "", 2}, {"{a:" + "[" + strings.Repeat("7,", 297) + "7]}", "set b 1\n", "", 0}, {"{a:" + "[" + strings.Repeat("7,", 296) + "7]}", "set b 1\nset a/0 {}\nset a/0/x 1\ndrop b\n", "", 2},
	} {
		if x.bad >= 0 {
			x.want = x.v
		}
		list, ok := patchOfText(x.patch)
		if !ok {
			t.Fatalf("%.60q: the test is wrong", x.patch)
		}
		got, bad := patchesRight(t, valueIn(x.v), list)
		if bad != x.bad || !alike(got, valueIn(x.want)) {
			t.Errorf("%.60q of %.60s: %d %.200v", x.patch, x.v, bad, got)
		}
	}
}

// anyMap is right, and a map.
func anyMap(rnd *rand.Rand) impl.Value {
	for {
		if v := anyValue(rnd, 6); v.Kind == impl.ValMap && isValue(v) {
			return v
		}
	}
}

// anyOp nearly fits v: its Path leads somewhere, or to a new place, or to nothing.
func anyOp(rnd *rand.Rand, v impl.Value) impl.Op {
	all := allPaths(v)
	path := slices.Clone(all[rnd.Intn(len(all))])
	if holder, ok := impl.Reach(v, path); len(path) == 0 || ok && rnd.Intn(3) == 0 {
		path = append(path, []string{"a", "b", "c", "0", "1", "01", strconv.Itoa(len(holder.Kids))}[rnd.Intn(7)])
	}
	if rnd.Intn(10) == 0 {
		path[rnd.Intn(len(path))] = rightSteps[rnd.Intn(len(rightSteps))]
	}
	op := impl.Op{Kind: 1 + rnd.Intn(3), Path: path}
	if there, ok := impl.Reach(v, path); op.Kind == impl.OpNeed && ok && rnd.Intn(4) > 0 {
		op.Value = there
	} else if op.Kind != impl.OpDrop {
		op.Value = anyValue(rnd, 1+rnd.Intn(4))
	}
	if rnd.Intn(60) == 0 {
		op.Path = append(op.Path, wrongSteps[rnd.Intn(len(wrongSteps))])
	}
	return op
}

func TestPatchesOfManyKinds(t *testing.T) {
	rnd := rand.New(rand.NewSource(5))
	went, stopped := 0, 0
	for range 6000 {
		v := anyValue(rnd, 1+rnd.Intn(6))
		list, behind := []impl.Op{}, v
		for range rnd.Intn(9) {
			op := anyOp(rnd, behind)
			next, bad := patchedByWords(behind, []impl.Op{op})
			if bad < 0 || rnd.Intn(5) == 0 {
				list, behind = append(list, op), next
			}
		}
		if impl.PatchOk(list) != isPatch(list) {
			t.Fatalf("%v: %v", list, impl.PatchOk(list))
		}
		_, bad := patchesRight(t, v, list)
		if bad < 0 && len(list) > 2 {
			went++
		} else if bad > 1 {
			stopped++
		}
		s := impl.PatchText(list)
		if isPatch(list) && s != textOfOps(list) || !isPatch(list) && s != "" {
			t.Fatalf("%v: %q", list, s)
		}
		readsPatchAsItsForm(t, s)
	}
	if went < 300 || stopped < 300 {
		t.Error("too few were tried:", went, stopped)
	}
}

// Patches that go, one behind the other, are as one of all their ops.
func TestPatchesInParts(t *testing.T) {
	rnd := rand.New(rand.NewSource(55))
	for range 2000 {
		v := anyMap(rnd)
		list, behind := []impl.Op{}, v
		for range 6 {
			op := anyOp(rnd, behind)
			if next, bad := impl.Patch(behind, []impl.Op{op}); bad < 0 {
				list, behind = append(list, op), next
			}
		}
		if got, bad := impl.Patch(v, list); bad != -1 || !alike(got, behind) {
			t.Fatalf("%v of %v: %d %v, not %v", list, v, bad, got, behind)
		}
	}
}

// differencesByWords are those of two maps, as many as there are.
func differencesByWords(a, b map[string]impl.Value, ahead []string) []impl.Op {
	both := maps.Clone(a)
	maps.Copy(both, b)
	out := []impl.Op{}
	for _, key := range slices.Sorted(maps.Keys(both)) {
		path := append(slices.Clone(ahead), key)
		x, inA := a[key]
		y, inB := b[key]
		switch {
		case !inB:
			out = append(out, impl.Op{Kind: impl.OpDrop, Path: path})
		case inA && x.Kind == impl.ValMap && y.Kind == impl.ValMap:
			out = append(out, differencesByWords(byKey(x), byKey(y), path)...)
		case !inA || !alike(x, y):
			out = append(out, impl.Op{Kind: impl.OpSet, Path: path, Value: y})
		}
	}
	return out
}

// differsRight asks for the Differences that the words tell, and that they make b of a where no value between is too great. It tells whether they do.
func differsRight(t *testing.T, a, b impl.Value) bool {
	t.Helper()
	want := []impl.Op{}
	if isValue(a) && isValue(b) && a.Kind == impl.ValMap && b.Kind == impl.ValMap {
		want = differencesByWords(byKey(a), byKey(b), nil)
	}
	tooMany := len(want) > 20
	if tooMany {
		want = nil
	}
	keptA, keptB := copied(a), copied(b)
	got := impl.Differences(a, b)
	if !sameOps(got, want) || !impl.PatchOk(got) {
		t.Fatalf("%.300v and %.300v: %.300v, not %.300v", a, b, got, want)
	}
	if !alike(a, keptA) || !alike(b, keptB) {
		t.Fatalf("%.300v and %.300v: an argument was changed", a, b)
	}
	if tooMany || !isValue(a) || !isValue(b) || a.Kind != impl.ValMap || b.Kind != impl.ValMap {
		return false
	}
	made, bad := patchesRight(t, a, got)
	between, wantBad := patchedByWords(a, want)
	if bad != wantBad || bad < 0 && (!alike(made, b) || !alike(between, b)) {
		t.Fatalf("%.300v and %.300v: %d %.300v", a, b, bad, made)
	}
	return bad < 0
}

// numbered is a map of so many keys, each with this value.
func numbered(n int, v impl.Value) impl.Value {
	return mapOf(ascendingKeys(n), many(n, v)...)
}

func TestDifferences(t *testing.T) {
	for _, x := range []struct {
		a, b, want string
	}{
		{"{}", "{}", ""}, {"{a:1}", "{a:1}", ""}, {"{a:{b:{}},c:[1,{}]}", "{a:{b:{}},c:[1,{}]}", ""},
		{"{}", "{a:1}", "set a 1\n"}, {"{a:1}", "{}", "drop a\n"}, {"{a:1}", "{a:2}", "set a 2\n"}, {"{a:1}", "{b:1}", "drop a\nset b 1\n"}, {"{b:1}", "{a:1}", "set a 1\ndrop b\n"}, {"{a:1,b:2,c:3,d:4}", "{a:1,c:4,d:4,e:5}", "drop b\nset c 4\nset e 5\n"}, {"{10:1,9:1}", "{1:1,10:2}", "set 1 1\nset 10 2\ndrop 9\n"}, {"{a:1,a-b:1,a0:1}", "{a:2,a-b:2,a0:2}", "set a 2\nset a-b 2\nset a0 2\n"},
		{"{}", "{a:{b:1}}", "set a {b:1}\n"}, {"{a:{}}", "{a:{b:1}}", "set a/b 1\n"}, {"{a:{b:1}}", "{a:{}}", "drop a/b\n"}, {"{a:{b:1}}", "{}", "drop a\n"}, {"{a:{b:1,c:2}}", "{a:{b:2,d:2}}", "set a/b 2\ndrop a/c\nset a/d 2\n"}, {"{a:{b:1},b:1,c:{a:1}}", "{a:{b:2},b:1,c:{a:1,b:2}}", "set a/b 2\nset c/b 2\n"}, {"{a:{b:{c:{}}}}", "{a:{b:{c:{d:{}}}}}", "set a/b/c/d {}\n"}, {"{a:{z:1},b:1}", "{a:{},b:2}", "drop a/z\nset b 2\n"},
		{deepest, "{a:{a:{a:{a:{a:2}}}}}", "set a/a/a/a/a 2\n"}, {deepest, "{a:{a:{a:{a:{b:1}}}}}", "drop a/a/a/a/a\nset a/a/a/a/b 1\n"}, {"{a:{a:{a:{a:{a:{}}}}}}", "{a:{a:{a:{a:{a:[]}}}}}", "set a/a/a/a/a []\n"}, {"{a:{a:{a:{a:{a:{}}}}}}", "{a:{a:{a:{a:{a:{}}}}}}", ""},
		{"{a:{b:1}}", "{a:1}", "set a 1\n"}, {"{a:1}", "{a:{b:1}}", "set a {b:1}\n"}, {"{a:{}}", "{a:[]}", "set a []\n"}, {"{a:[]}", "{a:{}}", "set a {}\n"}, {"{a:{0:1}}", "{a:[1]}", "set a [1]\n"}, {"{a:0}", "{a:false}", "set a false\n"}, {`{a:""}`, `{a:"a"}`, "set a \"a\"\n"}, {"{a:1}", `{a:"1"}`, "set a \"1\"\n"},
		{"{a:[1,2]}", "{a:[1,2]}", ""}, {"{a:[1,2]}", "{a:[1,3]}", "set a [1,3]\n"}, {"{a:[1,2]}", "{a:[1]}", "set a [1]\n"}, {"{a:[1]}", "{a:[1,2]}", "set a [1,2]\n"}, {"{a:[]}", "{a:[]}", ""}, {"{a:[{b:1}]}", "{a:[{b:2}]}", "set a [{b:2}]\n"}, {"{a:{b:[1]}}", "{a:{b:[2]}}", "set a/b [2]\n"},
		{"[]", "[1]", ""}, {"[1]", "[]", ""}, {"1", "2", ""}, {`"a"`, `"b"`, ""}, {"true", "false", ""}, {"{}", "[]", ""}, {"[]", "{a:1}", ""}, {"1", "{a:1}", ""}, {"{a:1}", "1", ""},
	} {
		a, b := valueIn(x.a), valueIn(x.b)
		if got := textOfOps(impl.Differences(a, b)); got != x.want {
			t.Errorf("%s and %s: %q", x.a, x.b, got)
		}
		makes := a.Kind == impl.ValMap && b.Kind == impl.ValMap
		if differsRight(t, a, b) != makes || differsRight(t, b, a) != makes {
			t.Errorf("%s and %s do not make each other", x.a, x.b)
		}
	}
}

// As many as MaxOps are told, and more are not.
func TestDifferencesAtTheLimit(t *testing.T) {
	one, two := numOf(1), numOf(2)
	for n := 18; n <= 23; n++ {
		for _, x := range []struct{ a, b impl.Value }{
			{mapOf(""), numbered(n, one)}, {numbered(n, one), mapOf("")}, {numbered(n, one), numbered(n, two)}, {numbered(50, one), numbered(50-n, one)},
			{mapOf("a", numbered(n, one)), mapOf("a", numbered(n, two))}, {mapOf("a b", numbered(n-1, one), one), mapOf("a b", mapOf(""), two)}, {mapOf("a b", numbered(10, one), numbered(n-10, one)), mapOf("a b", numbered(10, two), mapOf(""))}, {nested(numbered(n, one), 4, true), nested(numbered(n, listOf()), 4, true)},
		} {
			if got := impl.Differences(x.a, x.b); n <= 20 && len(got) != n || n > 20 && len(got) != 0 {
				t.Errorf("%d: %d ops", n, len(got))
			}
			if differsRight(t, x.a, x.b) != (n <= 20) {
				t.Errorf("%d do not make the other one", n)
			}
		}
	}
	for _, x := range []struct{ a, b impl.Value }{{numbered(149, one), mapOf("")}, {mapOf("a", numbered(298, one)), mapOf("a", numbered(298, two))}, {numbered(299, one), numbered(299, two)}} {
		if differsRight(t, x.a, x.b) || differsRight(t, x.b, x.a) {
			t.Error("far too many ops")
		}
	}
}

// Where a value between is too great, the ops are told, and can not be done.
func TestDifferencesWithAValueBetweenThatIsTooGreat(t *testing.T) {
	early, late := mapOf("a", listOf(many(200, numOf(1))...)), mapOf("b", listOf(many(200, numOf(1))...))
	if differsRight(t, late, early) || !differsRight(t, early, late) {
		t.Error("what comes ahead of what goes is not too great")
	}
	if got, bad := impl.Patch(late, impl.Differences(late, early)); bad != 0 || !alike(got, late) {
		t.Error(bad)
	}
	tight := mapOf("b", listOf(many(297, numOf(1))...))
	for _, x := range []struct {
		b  impl.Value
		ok bool
	}{{mapOf("a", numOf(1)), true}, {mapOf("a", listOf(numOf(1))), false}, {mapOf("a c", numOf(1), numOf(1)), true}, {mapOf("a aa", numOf(1), numOf(1)), false}} {
		if differsRight(t, tight, x.b) != x.ok {
			t.Error(x.b)
		}
	}
}

func TestDifferencesOfWrongValues(t *testing.T) {
	v := valueIn("{a:1}")
	for why, w := range wrongValues() {
		for _, x := range [][2]impl.Value{{w, v}, {v, w}, {w, w}, {w, mapOf("")}, {mapOf(""), w}} {
			if got := impl.Differences(x[0], x[1]); len(got) != 0 {
				t.Errorf("%s: %.200v", why, got)
			}
		}
	}
	for _, x := range rightLeaves() {
		if x.v.Kind != impl.ValMap && (len(impl.Differences(x.v, v)) > 0 || len(impl.Differences(v, x.v)) > 0 || len(impl.Differences(x.v, x.v)) > 0) {
			t.Errorf("%s is no map", x.s)
		}
	}
}

func TestDifferencesOfManyKinds(t *testing.T) {
	rnd := rand.New(rand.NewSource(555))
	made, some := 0, 0
	for range 4000 {
		a := anyMap(rnd)
		b := a
		for range 1 + rnd.Intn(5) {
			if next, bad := patchedByWords(b, []impl.Op{anyOp(rnd, b)}); bad < 0 && next.Kind == impl.ValMap {
				b = next
			}
		}
		if rnd.Intn(4) == 0 {
			b = anyMap(rnd)
		}
		if len(impl.Differences(a, b)) > 2 {
			some++
		}
		if differsRight(t, a, b) {
			made++
		}
		differsRight(t, b, a)
		if len(impl.Differences(a, copied(a))) != 0 {
			t.Fatalf("%v differs from itself", a)
		}
	}
	if made < 1000 || some < 300 {
		t.Error("too few were tried:", made, some)
	}
}

func TestPatchComesBackOfItsText(t *testing.T) {
	if got, ok := impl.ParsePatch(""); !ok || len(got) != 0 || impl.PatchText(nil) != "" || impl.PatchText([]impl.Op{}) != "" {
		t.Error("no ops:", got, ok)
	}
	for _, op := range rightOps() {
		for _, list := range [][]impl.Op{{op}, {op, op}, {drop("a"), op, need("b/0", textOf(" \n"[:1]))}, slices.Repeat([]impl.Op{op}, 20)} {
			s := impl.PatchText(list)
			if s != textOfOps(list) {
				t.Errorf("%.200v: %.200q", list, s)
			}
			if got, ok := impl.ParsePatch(s); !ok || !sameOps(got, list) {
				t.Errorf("%.200q: %v %.200v", s, ok, got)
			}
			readsPatchAsItsForm(t, s)
		}
	}
	if s := impl.PatchText([]impl.Op{set("a/0", valueIn(`{b:["x y",-1]}`)), drop("b"), need("c/d/e", boolOf(1))}); s != "set a/0 {b:[\"x y\",-1]}\ndrop b\nneed c/d/e true\n" {
		t.Errorf("%q", s)
	}
}

func TestParsePatchRefuses(t *testing.T) {
	many := strings.Repeat("drop a\n", 20)
	for _, s := range []string{
		"\n", " ", " \n", "\n\n", "\x00", "a", "set", "set\n", "set ", "set \n", "set  \n", "drop", "drop\n", "drop ", "drop \n", "need\n", "need \n",
		"set a 1", "drop a", "need a 1", "set a 1\nset b 1", "set a 1\n\n", "\nset a 1\n", "set a 1\n\nset b 1\n", "set a 1\r\n", "set a 1\n ", "set a 1\n\x00", "set a 1set b 1\n", "set a 1 set b 1\n", "set a 1;\n",
		"set  a 1\n", "set a  1\n", " set a 1\n", "set a 1 \n", "drop  a\n", "drop a \n", " drop a\n", "drop a  \n", "need a  1\n", "need  a 1\n", "need a 1 \n", "set\ta 1\n", "set a\t1\n", "drop\ta\n",
		"set /a 1\n", "set a/ 1\n", "set a//b 1\n", "set / 1\n", "set // 1\n", "drop /a\n", "drop a/\n", "drop a//b\n", "drop /\n", "need a//b 1\n", "need a/ 1\n",
		"fly a\n", "fly a 1\n", "Set a 1\n", "SET a 1\n", "sets a 1\n", "se a 1\n", "seta 1\n", "drop-a\n", "dropa\n", "drops a\n", "needs a 1\n", "none a\n", "0 a\n", "1 a 1\n", " a\n", " a 1\n", "a 1\n", "set,a 1\n",
		"drop a 1\n", "drop a true\n", "drop a \"\"\n", "drop a x\n", "drop a b\n", "drop a {}\n", "drop a []\n", "set a\n", "set a \n", "need a\n", "need a \n", "need a/b\n",
		"set a 01\n", "set a -0\n", "set a +1\n", "set a x\n", "set a \"\n", "set a \"x\n", "set a x\"\n", "set a [1\n", "set a [1,]\n", "set a {a}\n", "set a {b:1,a:2}\n", "set a [1, 2]\n", "set a {a: 1}\n", "set a True\n", "set a 1.0\n", "set a \"\x1f\"\n", "set a \"é\"\n", "set a \"a\nb\"\n", "set a 9223372036854775808\n", "set a [[[[[[]]]]]]]\n", "set a [[[[[[[]]]]]]]\n", "need a [[[[[[1]]]]]]\n", "set a [" + strings.Repeat("7,", 299) + "7]\n", "need a 1 2\n", "set a b 1\n", "set a 1 1\n", "need a nil\n",
		"set -1 1\n", "set A 1\n", "set a_b 1\n", "set a- 1\n", "set é 1\n", "set a.b 1\n", "set a\\b 1\n", "drop -1\n", "drop A\n", "drop " + longName + "n\n", "drop " + strings.Repeat("9", 21) + "\n", "drop a/-1\n", "set a/b/c/d/e/f 1\n", "drop 0/0/0/0/0/0\n", "need a/b/c/d/e/f 1\n", "drop a/b/c/d/e/\n", "drop \"a\"\n",
		many + "drop a\n", many + "\n", many + "drop", many + "drop a", many + " ", many + "set a 1\n", many + many,
	} {
		if got, ok := impl.ParsePatch(s); ok || len(got) != 0 {
			t.Errorf("%.80q: %v", s, got)
		}
		readsPatchAsItsForm(t, s)
	}
	if got, ok := impl.ParsePatch(many); !ok || len(got) != 20 {
		t.Error("20 ops are no patch")
	}
}

func TestParsePatchOfVeryLongTexts(t *testing.T) {
	for _, piece := range []string{"\n", " ", "/", "a", "0", "a/", "/a", "set ", "drop ", "set a 1\n", "drop a\n", "need a []\n", "set a ", "set a [", "[", "{a:", "\"", "\\", "set", "\x00", "\xff", " \n", "set \n", "drop\n"} {
		long := strings.Repeat(piece, 200000)
		for _, s := range []string{long, long + "\n", "drop " + long, "drop " + long + "\n", "set " + long + " 1\n", "set a " + long + "\n", "set a [" + long + "]\n", "need a \"" + long + "\"\n", "drop a\n" + long, "drop a/" + long + "\n"} {
			if got, ok := impl.ParsePatch(s); ok || len(got) != 0 {
				t.Errorf("%.20q and on: %.200v", s, got)
			}
		}
	}
}

// Every text of a few of these pieces is read as its form says.
func TestParsePatchOfAllShortTexts(t *testing.T) {
	one := func(s string) { readsPatchAsItsForm(t, s) }
	eachShortText(5, []string{"set ", "drop ", "need ", "a", "/", "0", " ", "1", "\n", "[", "]"}, one)
	eachShortText(6, []string{"set", "drop", " ", "a", "/", "\n", "\""}, one)
	eachShortText(6, []string{"drop a", "set b 1", "need ", "/0", "\n", " "}, one)
}

// Every text that is one byte away from a patch's text is read as its form says, and so is every one that is cut off, or has bytes behind it.
func TestParsePatchOfNearTexts(t *testing.T) {
	for _, s := range []string{"drop a\n", "drop 0/b-c/1\n", "set a 1\n", "set a/0/b {a:[1,\"x y\"],b:true}\n", "need 12 -5\n", "need a/b \"/ \\\" \\\\\"\n", "set a 1\ndrop a\nneed b []\n", "drop a/b/c/d/e\nset a/b/c/d/e false\n"} {
		eachNearText(s, everyByte(), func(s string) { readsPatchAsItsForm(t, s) })
		for i := range len(s) {
			readsPatchAsItsForm(t, s[:i])
			readsPatchAsItsForm(t, s[i:])
			for _, more := range []string{"\n", " ", "drop a\n", "set b 2\n", "/a"} {
				readsPatchAsItsForm(t, s[:i]+more+s[i:])
			}
		}
	}
}

// Whatever v is, what can not be done answers it, and every call ends.
func TestPatchesOfValuesWithoutEnd(t *testing.T) {
	one := numOf(1)
	keyed := mapOf("a", one)
	keyed.Kids[0] = mapOf("a", keyed)
	keyed.Kids[0].Kids[0] = keyed
	wide := make([]impl.Value, 1000)
	for i := range wide {
		wide[i] = impl.Value{Kind: impl.ValList, Keys: ascendingNames(1000), Kids: wide}
	}
	for what, v := range map[string]impl.Value{"a ring of one": ring(1, one), "a ring of five": ring(5, one), "a ring of maps": keyed, "a wide ring": wide[0], "rings in rings": ring(3, ring(2, ring(1, one))), "doubled": doubled(70, one), "deep": nested(one, 300000, false), "many": listOf(many(300000, one)...)} {
		for _, list := range [][]impl.Op{nil, {drop("a")}, {set("0", one)}, {drop("0/1"), {}}} {
			got, bad := impl.Patch(v, list)
			if bad != 0 || !impl.SameValue(got, v) || impl.SameValue(got, one) {
				t.Errorf("%s: %d", what, bad)
			}
			if len(got.Kids) > 0 && &got.Kids[0] == &v.Kids[0] {
				t.Errorf("%s: the answer shares its list with the argument", what)
			}
		}
		if impl.PatchOk([]impl.Op{set("a", v)}) || impl.PatchOk([]impl.Op{need("a", v)}) || impl.PatchOk([]impl.Op{{Kind: impl.OpDrop, Path: []string{"a"}, Value: v}}) || impl.PatchText([]impl.Op{set("a", v)}) != "" {
			t.Error(what, "is the Value of an op")
		}
		if len(impl.Differences(v, mapOf("a", one))) != 0 || len(impl.Differences(mapOf("a", one), v)) != 0 || len(impl.Differences(v, v)) != 0 {
			t.Error(what, "has differences")
		}
	}
}

// However much v has, lists that begin alike, or are one, come back as they are.
func TestPatchesOfGreatValues(t *testing.T) {
	row := []impl.Value{numOf(1), listOf(textOf("a")), mapOf("x y", listOf())}
	keys := ascendingNames(4)
	kids := many(300000, numOf(1))
	for _, n := range []int{1, 3, 2, 3, 0, 1} {
		kids = append(kids, listOf(row[:n]...), impl.Value{Keys: keys[:n], Kids: row[:n]}, impl.Value{Keys: keys[n:]})
	}
	v := listOf(kids...)
	if got, bad := impl.Patch(v, nil); bad != 0 || !alike(got, v) || sharesLists(got, v) {
		t.Error(bad, "another value came back")
	}
}

// ascendingNames are so many names in order.
func ascendingNames(n int) []string { return strings.Fields(ascendingKeys(n)) }

// sharesLists tells whether a list that a has is one that b has, too.
func sharesLists(a, b impl.Value) bool {
	heads := map[any]bool{}
	for _, h := range listHeads(a) {
		heads[h] = true
	}
	for _, h := range listHeads(b) {
		if heads[h] {
			return true
		}
	}
	return false
}

// listHeads are where the lists of v begin, the room behind them with it.
func listHeads(v impl.Value) []any {
	out := []any{}
	if cap(v.Keys) > 0 {
		out = append(out, &v.Keys[:1][0])
	}
	if cap(v.Kids) > 0 {
		out = append(out, &v.Kids[:1][0])
	}
	for _, k := range v.Kids {
		out = append(out, listHeads(k)...)
	}
	return out
}

// oneOfEach tells whether no two lists of v are one.
func oneOfEach(v impl.Value) bool {
	heads := listHeads(v)
	met := map[any]bool{}
	for _, h := range heads {
		met[h] = true
	}
	return len(met) == len(heads)
}

// What Patch answers shares nothing with v nor with an op, whether it went or not.
func TestPatchedValuesAreNewMemory(t *testing.T) {
	kid := mapOf("a b", listOf(numOf(1)), mapOf("c", numOf(1)))
	v := roomy(mapOf("a b c", kid, listOf(kid, kid), kid))
	wrong := roomy(mapOf("b a", kid, listOf(kid, kid, impl.Value{Keys: []string{"x"}})))
	for _, x := range []struct {
		v    impl.Value
		list []impl.Op
		bad  int
	}{
		{v, nil, -1}, {v, []impl.Op{set("d", kid), set("e", kid)}, -1}, {v, []impl.Op{set("a", kid), set("a/b/c", listOf()), drop("a/a")}, -1}, {v, []impl.Op{drop("b/0"), set("b/1", kid), set("b/2", kid), set("b/2/b", kid)}, -1}, {v, []impl.Op{need("c", kid), drop("c")}, -1},
		{v, []impl.Op{set("d", kid), set("d/x/y", kid)}, 1}, {v, []impl.Op{drop("d")}, 0}, {v, []impl.Op{{}}, 0}, {wrong, nil, 0}, {wrong, []impl.Op{drop("a")}, 0}, {mapOf("", kid, kid), nil, 0}, {impl.Value{Kind: 7, Keys: []string{"z"}, Kids: many(3, kid)}, nil, 0},
	} {
		before, ops := copied(x.v), copyOps(x.list)
		got, bad := impl.Patch(x.v, x.list)
		if bad != x.bad || sharesLists(got, x.v) || !oneOfEach(got) {
			t.Errorf("%v: %d, shared with v: %v, in itself: %v", x.list, bad, sharesLists(got, x.v), !oneOfEach(got))
		}
		for _, op := range x.list {
			if sharesLists(got, op.Value) {
				t.Errorf("%v: shared with an op", x.list)
			}
		}
		kept := copied(got)
		overwritten(got)
		if !alike(x.v, before) || !sameOps(x.list, ops) {
			t.Errorf("%v: an argument changed with its answer", x.list)
		}
		if more, _ := impl.Patch(x.v, x.list); !alike(more, kept) {
			t.Errorf("%v: an answer was kept", x.list)
		}
	}
	if !untouched(v) || !untouched(wrong) {
		t.Error("what lies behind a list's length was written")
	}
}

// What Differences and ParsePatch answer shares nothing, neither with an argument nor among itself.
func TestOpsAreNewMemory(t *testing.T) {
	kid := mapOf("a b", listOf(numOf(1)), listOf())
	a := mapOf("a b", mapOf("x y z", kid, kid, kid), mapOf("x", numOf(1)))
	b := mapOf("a b c d", mapOf("w x y", kid, numOf(1), kid), mapOf("x", kid), kid, kid)
	read, _ := impl.ParsePatch(textOfOps(impl.Differences(a, b)))
	for what, list := range map[string][]impl.Op{"differences": impl.Differences(a, b), "read": read} {
		if len(list) < 5 {
			t.Fatal(what, "too few were tried:", list)
		}
		whole, paths := listOf(), map[*string]bool{}
		for _, op := range list {
			whole.Kids = append(whole.Kids, op.Value)
			paths[&op.Path[:1][0]] = true
			for _, other := range list {
				if len(op.Path) < cap(op.Path) && &op.Path[:cap(op.Path)][cap(op.Path)-1] == &other.Path[:cap(other.Path)][cap(other.Path)-1] && len(op.Path) != len(other.Path) {
					t.Error(what, "two Paths share their room")
				}
			}
		}
		if !oneOfEach(whole) || len(paths) != len(list) || sharesLists(whole, a) || sharesLists(whole, b) {
			t.Error(what, "ops share memory")
		}
		kept := copyOps(list)
		for i := range list {
			rest := copyOps(list[i+1:])
			overwritten(list[i].Value)
			for j := range list[i].Path[:cap(list[i].Path)] {
				list[i].Path[:cap(list[i].Path)][j] = "changed"
			}
			if !sameOps(list[i+1:], rest) {
				t.Error(what, "an op changed with another one")
			}
		}
		if again, _ := impl.ParsePatch(textOfOps(kept)); !sameOps(again, kept) || !sameOps(impl.Differences(a, b), kept) {
			t.Error(what, "an answer was kept")
		}
	}
}

// What lies behind a list's length is neither read nor written.
func TestBehindTheLengthOfPatches(t *testing.T) {
	v := valueIn("{a:[1,2],b:{c:[]}}")
	whole := []impl.Op{set("b/c", textOf("x")), drop("a/0"), {Kind: 9}, drop("b"), {}}
	kept := copyOps(whole)
	for n := range len(whole) {
		for _, val := range []impl.Value{v, roomy(v)} {
			a, aBad := impl.Patch(val, whole[:n])
			b, bBad := impl.Patch(v, slices.Clip(copyOps(whole[:n])))
			if aBad != bBad || !alike(a, b) || impl.PatchOk(whole[:n]) != isPatch(whole[:n]) || impl.PatchText(whole[:n]) != impl.PatchText(copyOps(whole[:n])) {
				t.Error(n, aBad, a)
			}
		}
	}
	path := []string{"b", "c", "A", ""}
	for n := range len(path) {
		for _, op := range []impl.Op{{Kind: impl.OpSet, Path: path[:n], Value: roomy(listOf(numOf(1)))}, {Kind: impl.OpDrop, Path: path[:n]}, {Kind: impl.OpNeed, Path: path[:n], Value: roomy(listOf())}} {
			if impl.PatchOk([]impl.Op{op}) != (n == 1 || n == 2) {
				t.Error(n, op)
			}
			short := roomy(v)
			got, bad := impl.Patch(short, []impl.Op{op})
			want, wantBad := patchedByWords(v, copyOps([]impl.Op{op}))
			if bad != wantBad || !alike(got, want) || !untouched(short) || op.Kind != impl.OpDrop && !untouched(op.Value) {
				t.Error(n, op, bad, got)
			}
		}
	}
	if !sameOps(whole, kept) || !slices.Equal(path, []string{"b", "c", "A", ""}) {
		t.Error("written")
	}
	a, b := roomy(v), roomy(valueIn("{a:[],b:{d:1},c:{}}"))
	if got := textOfOps(impl.Differences(a, b)); got != "set a []\ndrop b/c\nset b/d 1\nset c {}\n" || !untouched(a) || !untouched(b) {
		t.Errorf("%q", got)
	}
}

// Empty lists and nil are the same to ops, too.
func TestEmptyListsOfOps(t *testing.T) {
	bare, empty := listOf(), impl.Value{Kind: impl.ValList, Keys: []string{}, Kids: []impl.Value{}}
	for _, x := range [][2]impl.Value{{bare, empty}, {empty, bare}} {
		if got, bad := impl.Patch(mapOf("a", x[0]), []impl.Op{need("a", x[1]), set("b", x[1])}); bad != -1 || !alike(got, mapOf("a b", bare, bare)) {
			t.Error(bad, got)
		}
		if got := impl.Differences(mapOf("a", x[0]), mapOf("a", x[1])); len(got) != 0 {
			t.Error(got)
		}
	}
	dropped, _ := impl.Patch(mapOf("a", numOf(1)), []impl.Op{drop("a")})
	read, _ := impl.ParseValue("{}")
	if !reflect.DeepEqual(dropped, read) {
		t.Error("one empty map is another one:", dropped, read)
	}
}
