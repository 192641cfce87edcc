package tests

import (
	"maps"
	"math"
	"math/rand"
	"reflect"
	"slices"
	"strconv"
	"strings"
	"testing"

	"loop.example/g00119/impl"
)

// Promise 7: who comes with an old revision changes nothing; Uids only rise; what ends waits for all that it waits for.

const (
	mostObjs = 60
	mostRev  = 1000000
	mostLog  = 40
)

// call is one of the calls that change; what it does not take stays empty.
type call struct {
	what  string
	kind  int
	name  string
	rev   int
	value impl.Value
	waits []string
	wait  string
}

// These make calls; the waits of Create stand between blanks.

func create(kind int, name string, spec impl.Value, waits string) call {
	return call{what: "create", kind: kind, name: name, value: spec, waits: strings.Fields(waits)}
}

func update(kind int, name string, rev int, spec impl.Value) call {
	return call{what: "update", kind: kind, name: name, rev: rev, value: spec}
}

func status(kind int, name string, rev int, v impl.Value) call {
	return call{what: "status", kind: kind, name: name, rev: rev, value: v}
}

func remove(kind int, name string) call {
	return call{what: "remove", kind: kind, name: name}
}

func finish(kind int, name, wait string) call {
	return call{what: "finish", kind: kind, name: name, wait: wait}
}

// at asks the program.
func (c call) at(b impl.Base) (impl.Base, int) {
	switch c.what {
	case "create":
		return impl.Create(b, c.kind, c.name, c.value, c.waits)
	case "update":
		return impl.Update(b, c.kind, c.name, c.rev, c.value)
	case "status":
		return impl.SetStatus(b, c.kind, c.name, c.rev, c.value)
	case "remove":
		return impl.Remove(b, c.kind, c.name)
	}
	return impl.Finish(b, c.kind, c.name, c.wait)
}

// The document's words once more.

func isRow(l []string) bool {
	for _, s := range l {
		if !isName.MatchString(s) {
			return false
		}
	}
	return slices.Equal(slices.Compact(slices.Sorted(slices.Values(l))), l)
}

func isKind(kind int) bool { return kind == 1 || kind == 2 || kind == 3 }

func isObj(o impl.Obj, b impl.Base, gone bool) bool {
	numbers := 1 <= o.Uid && o.Uid <= b.Next-1 && 1 <= o.Rev && o.Rev <= b.Rev && 1 <= o.Gen && o.Gen <= o.Rev
	waits := isRow(o.Waits) && len(o.Waits) <= 4 && (gone || !o.Ends || len(o.Waits) > 0)
	return isKind(o.Kind) && isName.MatchString(o.Name) && numbers && waits && isValue(o.Spec) && isValue(o.Status)
}

// keyOf stands in the order of Kind, then Name, if the Kind is one.
func keyOf(kind int, name string) string { return strconv.Itoa(kind) + " " + name }

func isBase(b impl.Base) bool {
	if len(b.Objs) > 60 || len(b.Log) > 40 || b.Rev < 0 || b.Rev > 1000000 || b.Next < 1 || b.Next > 1000000 {
		return false
	}
	keys, uids, last := []string{}, map[int]bool{}, 0
	for _, o := range b.Objs {
		keys = append(keys, keyOf(o.Kind, o.Name))
		if uids[o.Uid] || !isObj(o, b, false) {
			return false
		}
		uids[o.Uid] = true
	}
	for _, c := range b.Log {
		if c.Rev <= last || c.Obj.Rev != c.Rev || !isObj(c.Obj, b, c.Gone) {
			return false
		}
		last = c.Rev
	}
	return slices.Equal(slices.Compact(slices.Sorted(slices.Values(keys))), keys)
}

func (c call) isRight() bool {
	values := map[string]bool{"create": true, "update": true, "status": true}
	right := isKind(c.kind) && isName.MatchString(c.name) && (!values[c.what] || isValue(c.value))
	return right && isRow(c.waits) && len(c.waits) <= 4 && (c.what != "finish" || isName.MatchString(c.wait))
}

// byWords is what a call must answer.
func (c call) byWords(b impl.Base) (impl.Base, int) {
	if !isBase(b) || !c.isRight() {
		return b, impl.StForm
	}
	if b.Rev == 1000000 || b.Next == 1000000 {
		return b, impl.StFull
	}
	objs := map[string]impl.Obj{}
	for _, o := range b.Objs {
		objs[keyOf(o.Kind, o.Name)] = o
	}
	o, there := objs[keyOf(c.kind, c.name)]
	if c.what == "create" {
		if there {
			return b, impl.StThere
		}
		if len(objs) == 60 {
			return b, impl.StFull
		}
		o = impl.Obj{Kind: c.kind, Name: c.name, Uid: b.Next, Gen: 1, Waits: c.waits, Spec: c.value, Status: mapOf("")}
		b.Next++
		return changedTo(b, objs, o, false), impl.StGood
	}
	if !there {
		return b, impl.StNone
	}
	o, gone, code := c.doneTo(o)
	if code != impl.StGood || code == impl.StGood && c.what == "remove" && o.Ends && objs[keyOf(c.kind, c.name)].Ends {
		return b, code
	}
	return changedTo(b, objs, o, gone), impl.StGood
}

// doneTo tells what becomes of the object, whether it is gone, and the code.
func (c call) doneTo(o impl.Obj) (impl.Obj, bool, int) {
	switch {
	case (c.what == "update" || c.what == "status") && c.rev != o.Rev:
		return o, false, impl.StStale
	case c.what == "update" && o.Ends:
		return o, false, impl.StEnds
	case c.what == "update":
		if !alike(o.Spec, c.value) {
			o.Gen++
		}
		o.Spec = c.value
	case c.what == "status":
		o.Status = c.value
	case c.what == "remove" && len(o.Waits) == 0:
		return o, true, impl.StGood
	case c.what == "remove":
		o.Ends = true
	default:
		left := []string{}
		for _, w := range o.Waits {
			if w != c.wait {
				left = append(left, w)
			}
		}
		if len(left) == len(o.Waits) {
			return o, false, impl.StNone
		}
		o.Waits = left
		return o, o.Ends && len(left) == 0, impl.StGood
	}
	return o, false, impl.StGood
}

func changedTo(b impl.Base, objs map[string]impl.Obj, o impl.Obj, gone bool) impl.Base {
	b.Rev++
	o.Rev = b.Rev
	objs[keyOf(o.Kind, o.Name)] = o
	if gone {
		delete(objs, keyOf(o.Kind, o.Name))
	}
	b.Objs = nil
	for _, key := range slices.Sorted(maps.Keys(objs)) {
		b.Objs = append(b.Objs, objs[key])
	}
	b.Log = append(slices.Clone(b.Log), impl.Change{Rev: b.Rev, Gone: gone, Obj: o})
	b.Log = b.Log[max(0, len(b.Log)-40):]
	return b
}

// copiedObj and copiedBase share nothing with what they copy; of an empty list they make nil.

func copiedObj(o impl.Obj) impl.Obj {
	o.Waits = append([]string(nil), o.Waits...)
	o.Spec, o.Status = copied(o.Spec), copied(o.Status)
	return o
}

func copiedObjs(list []impl.Obj) []impl.Obj {
	out := []impl.Obj(nil)
	for _, o := range list {
		out = append(out, copiedObj(o))
	}
	return out
}

func copiedBase(b impl.Base) impl.Base {
	log := []impl.Change(nil)
	for _, c := range b.Log {
		log = append(log, impl.Change{Rev: c.Rev, Gone: c.Gone, Obj: copiedObj(c.Obj)})
	}
	b.Objs, b.Log = copiedObjs(b.Objs), log
	return b
}

func sameBases(a, b impl.Base) bool {
	return reflect.DeepEqual(copiedBase(a), copiedBase(b))
}

func sameObjs(a, b []impl.Obj) bool {
	return reflect.DeepEqual(copiedObjs(a), copiedObjs(b))
}

// goesRight asks a call for what the words say, and the promise, and tells the answer.
func goesRight(t *testing.T, b impl.Base, c call) (impl.Base, int) {
	t.Helper()
	want, wantCode := c.byWords(b)
	keptB, keptWaits, keptV := copiedBase(b), slices.Clone(c.waits), copied(c.value)
	got, code := c.at(b)
	if code != wantCode || !sameBases(got, want) {
		t.Fatalf("%.200v of %.300v: %d %.600v, not %d %.600v", c, b, code, got, wantCode, want)
	}
	if !sameBases(b, keptB) || !slices.Equal(c.waits, keptWaits) || !alike(c.value, keptV) {
		t.Fatalf("%.200v of %.300v: an argument was changed", c, keptB)
	}
	if impl.BaseOk(got) != impl.BaseOk(b) || code == impl.StGood && !impl.BaseOk(got) {
		t.Fatalf("%.200v of %.300v: %v, and behind it %v", c, b, impl.BaseOk(b), impl.BaseOk(got))
	}
	if got.Rev < b.Rev || got.Rev > b.Rev+1 || got.Next < b.Next || code != impl.StGood && !sameBases(got, b) {
		t.Fatalf("%.200v of %.300v: %d, Rev %d, Next %d", c, b, code, got.Rev, got.Next)
	}
	return got, code
}

// textOfObjs tells what the objects of b are, without their Specs and Statuses.
func textOfObjs(list []impl.Obj) string {
	out := []string{}
	for _, o := range list {
		s := keyOf(o.Kind, o.Name) + " u" + strconv.Itoa(o.Uid) + " r" + strconv.Itoa(o.Rev) + " g" + strconv.Itoa(o.Gen)
		for _, w := range o.Waits {
			s += " " + w
		}
		if o.Ends {
			s += " ends"
		}
		out = append(out, s)
	}
	return strings.Join(out, ", ")
}

func textOfLog(log []impl.Change) string {
	out := []string{}
	for _, c := range log {
		s := strconv.Itoa(c.Rev) + ": " + textOfObjs([]impl.Obj{c.Obj})
		if c.Gone {
			s += " gone"
		}
		out = append(out, s)
	}
	return strings.Join(out, ", ")
}

func TestStoreConstants(t *testing.T) {
	if impl.MaxObjs != mostObjs || impl.MaxRev != mostRev || impl.MaxLog != mostLog || impl.KindWorkload != 1 || impl.KindIsland != 2 || impl.KindPolicy != 3 {
		t.Error("the constants of chapter 7")
	}
	if impl.StGood != 0 || impl.StForm != 1 || impl.StThere != 2 || impl.StNone != 3 || impl.StStale != 4 || impl.StFull != 5 || impl.StEnds != 6 {
		t.Error("the codes of chapter 7")
	}
}

func TestBaseNew(t *testing.T) {
	b := impl.BaseNew()
	if len(b.Objs) != 0 || b.Rev != 0 || b.Next != 1 || len(b.Log) != 0 || !impl.BaseOk(b) {
		t.Error(b)
	}
	if impl.BaseOk(impl.Base{}) {
		t.Error("the zero base is right")
	}
}

// objOf makes an object without asking the program; its Waits stand between blanks.
func objOf(kind int, name string, uid, rev int, waits string) impl.Obj {
	return impl.Obj{Kind: kind, Name: name, Uid: uid, Rev: rev, Gen: 1, Waits: strings.Fields(waits), Spec: valueIn(`{image:"web",ports:[80]}`), Status: mapOf("")}
}

// ending is o that is being taken away.
func ending(o impl.Obj) impl.Obj {
	o.Ends = true
	return o
}

// changeOf has the Rev of o.
func changeOf(o impl.Obj, gone bool) impl.Change {
	return impl.Change{Rev: o.Rev, Gone: gone, Obj: o}
}

// crowd are so many objects, with the Uids and Revs from 1 on.
func crowd(n int) []impl.Obj {
	out := []impl.Obj{}
	for i, name := range ascendingNames(n) {
		out = append(out, objOf(1, name, i+1, i+1, ""))
	}
	return out
}

// logOf has so many Changes, with the Revs from first on.
func logOf(n, first int) []impl.Change {
	out := []impl.Change{}
	for i := range n {
		out = append(out, changeOf(objOf(1+i%3, "x"+strconv.Itoa(i%5), 1, first+i, ""), i%4 == 3))
	}
	return out
}

// small has an object without Waits, one with, one that Ends, and some Changes; Rev is 9, Next 7.
func small() impl.Base {
	plain, waits, ends := objOf(1, "web", 2, 3, ""), objOf(1, "z", 3, 5, "hub net"), ending(objOf(2, "isle", 6, 8, "hub"))
	old := objOf(3, "old", 1, 9, "")
	log := []impl.Change{changeOf(objOf(1, "web", 2, 2, ""), false), changeOf(plain, false), changeOf(waits, false), changeOf(ends, false), changeOf(ending(old), true)}
	return impl.Base{Objs: []impl.Obj{plain, waits, ends}, Rev: 9, Next: 7, Log: log}
}

// with is a copy of small that was changed.
func with(change func(b *impl.Base)) impl.Base {
	b := copiedBase(small())
	change(&b)
	return b
}

// rightBases are as told, with the edges that the document names.
func rightBases() map[string]impl.Base {
	out := map[string]impl.Base{
		"new": {Next: 1}, "a Rev": {Rev: 1, Next: 1}, "the greatest Rev": {Rev: mostRev, Next: 1}, "the greatest Next": {Next: mostRev}, "the greatest both": {Rev: mostRev, Next: mostRev}, "small": small(),
		"empty lists":                {Objs: []impl.Obj{}, Next: 1, Log: []impl.Change{}},
		"MaxObjs":                    {Objs: crowd(mostObjs), Rev: mostObjs, Next: mostObjs + 1},
		"one less than MaxObjs":      {Objs: crowd(mostObjs - 1), Rev: mostObjs, Next: mostObjs},
		"a name under each Kind":     {Objs: []impl.Obj{objOf(1, "a", 3, 1, ""), objOf(2, "a", 2, 1, ""), objOf(3, "a", 1, 1, "")}, Rev: 1, Next: 4},
		"Kinds ahead of names":       {Objs: []impl.Obj{objOf(1, "z", 1, 1, ""), objOf(2, "a", 2, 1, ""), objOf(2, "b", 3, 2, "")}, Rev: 2, Next: 4},
		"names in the order of text": {Objs: []impl.Obj{objOf(1, "a", 1, 1, ""), objOf(1, "a-b", 2, 1, ""), objOf(1, "a10", 3, 2, ""), objOf(1, "a9", 4, 2, ""), objOf(1, longName, 5, 2, "")}, Rev: 2, Next: 6},
		"MaxLog":                     {Rev: mostLog, Next: 2, Log: logOf(mostLog, 1)},
		"MaxLog up to the last Rev":  {Rev: mostRev, Next: 2, Log: logOf(mostLog, mostRev-mostLog+1)},
		"a Log that ends early":      {Rev: 99, Next: 2, Log: logOf(3, 1)},
		"a Log with Revs missing":    {Rev: 99, Next: 2, Log: append(logOf(3, 7), logOf(3, 90)...)},
		"no Log":                     with(func(b *impl.Base) { b.Log = nil }),
		"Log alone":                  with(func(b *impl.Base) { b.Objs = nil }),
		"the last Uid":               with(func(b *impl.Base) { b.Objs[0].Uid = b.Next - 1; b.Objs[2].Uid = 1 }),
		"the last Rev":               with(func(b *impl.Base) { b.Objs[0].Rev = b.Rev }),
		"the first Rev":              with(func(b *impl.Base) { b.Objs[0].Rev = 1 }),
		"the greatest Gen":           with(func(b *impl.Base) { b.Objs[1].Gen = b.Objs[1].Rev }),
		"four Waits":                 with(func(b *impl.Base) { b.Objs[0].Waits = strings.Fields("a b c d") }),
		"four Waits of one that ends": with(func(b *impl.Base) {
			b.Objs[2].Waits = strings.Fields("a a-b a10 " + longName)
		}),
		"Gone without Waits":         {Rev: 1, Next: 2, Log: []impl.Change{changeOf(objOf(1, "a", 1, 1, ""), true)}},
		"Gone, ended without Waits":  {Rev: 1, Next: 2, Log: []impl.Change{changeOf(ending(objOf(1, "a", 1, 1, "")), true)}},
		"Gone with Waits":            {Rev: 1, Next: 2, Log: []impl.Change{changeOf(ending(objOf(1, "a", 1, 1, "hub")), true)}},
		"Changes of other objects":   {Rev: 3, Next: 3, Log: []impl.Change{changeOf(objOf(3, "a", 2, 1, ""), false), changeOf(objOf(1, "b", 2, 3, ""), false)}},
		"a Change that tells others": with(func(b *impl.Base) { b.Log[3].Obj.Spec = numOf(5); b.Log[3].Obj.Waits = []string{"other"} }),
	}
	for _, x := range rightValues() {
		out["a Spec of "+x.s] = with(func(b *impl.Base) { b.Objs[0].Spec, b.Log[1].Obj.Spec = x.v, x.v })
		out["a Status of "+x.s] = with(func(b *impl.Base) { b.Objs[2].Status, b.Log[3].Obj.Status = x.v, x.v })
	}
	return out
}

var wrongNames = []string{"", "-", "a-", "-a", "A", "a b", " ", "a\n", "é", "\x00", "\xff", "a_b", longName + "n", strings.Repeat("a", 100000)}

// wrongKinds are none.
var wrongKinds = []int{0, -1, 4, 5, -3, 1 << 32, 1<<32 + 1, math.MaxInt, math.MinInt}

// wrongRows are no ascending names of which there are at most so many.
func wrongRows(most int) [][]string {
	out := [][]string{{"b", "a"}, {"a", "a"}, {"a", "c", "b"}, {"a", "b", "b"}, {"a", "b", "c", "c"}, {"a9", "a10"}, {"aa", "a"}}
	for _, s := range wrongNames {
		out = append(out, []string{s}, []string{"a", "b", "c", s}, []string{s, "x"})
	}
	return append(out, ascendingNames(most+1), ascendingNames(2*most), slices.Repeat([]string{"a"}, most+1), ascendingNames(1000))
}

// spoilObj makes an object wrong, by what is wrong with it then, in a base of this Rev and Next.
func spoilObj(rev, next int) map[string]func(o *impl.Obj) {
	out := map[string]func(o *impl.Obj){
		"the zero object": func(o *impl.Obj) { *o = impl.Obj{} },
		"a Uid of Next":   func(o *impl.Obj) { o.Uid = next }, "a Uid above Next": func(o *impl.Obj) { o.Uid = next + 1 },
		"a Gen above its Rev": func(o *impl.Obj) { o.Gen = o.Rev + 1 },
	}
	for _, n := range []int{0, -1, mostRev, mostRev + 1, 1 << 32, 1<<32 + 1, math.MaxInt, math.MinInt} {
		out["a Uid of "+strconv.Itoa(n)] = func(o *impl.Obj) { o.Uid = n }
		out["a Gen of "+strconv.Itoa(n)] = func(o *impl.Obj) { o.Gen = n }
	}
	for _, kind := range wrongKinds {
		out["a Kind of "+strconv.Itoa(kind)] = func(o *impl.Obj) { o.Kind = kind }
	}
	for _, s := range wrongNames {
		out["the name "+strconv.Quote(s[:min(30, len(s))])] = func(o *impl.Obj) { o.Name = s }
	}
	for i, w := range wrongRows(4) {
		out["wrong Waits "+strconv.Itoa(i)] = func(o *impl.Obj) { o.Waits = w }
	}
	return out
}

// wrongBases are not as told, by what is wrong with them.
func wrongBases() map[string]impl.Base {
	out := map[string]impl.Base{
		"the zero base": {}, "one more than MaxObjs": {Objs: crowd(mostObjs + 1), Rev: 99, Next: 99}, "far more than MaxObjs": {Objs: crowd(1000), Rev: 1000, Next: 1001}, "one more than MaxLog": {Rev: 99, Next: 2, Log: logOf(mostLog+1, 1)}, "far more than MaxLog": {Rev: 5000, Next: 2, Log: logOf(5000, 1)},
		"Kinds out of order":         with(func(b *impl.Base) { b.Objs[2].Kind, b.Objs[0].Kind = 1, 2 }),
		"names out of order":         with(func(b *impl.Base) { b.Objs[0].Name, b.Objs[1].Name = "z", "web" }),
		"one Kind and name":          with(func(b *impl.Base) { b.Objs[1].Name = "web" }),
		"one Kind and name at last":  with(func(b *impl.Base) { b.Objs[1].Kind, b.Objs[1].Name = 2, "isle" }),
		"names in order of numbers":  {Objs: []impl.Obj{objOf(1, "a9", 1, 1, ""), objOf(1, "a10", 2, 2, "")}, Rev: 2, Next: 3},
		"names by length":            {Objs: []impl.Obj{objOf(1, "b", 1, 1, ""), objOf(1, "aa", 2, 2, "")}, Rev: 2, Next: 3},
		"Uids alike":                 with(func(b *impl.Base) { b.Objs[1].Uid = b.Objs[0].Uid }),
		"Uids alike, far apart":      with(func(b *impl.Base) { b.Objs[2].Uid = b.Objs[0].Uid }),
		"an object, but no Rev":      {Objs: []impl.Obj{objOf(1, "a", 1, 1, "")}, Rev: 0, Next: 2},
		"an object, but no Next":     {Objs: []impl.Obj{objOf(1, "a", 1, 1, "")}, Rev: 1, Next: 1},
		"a Rev above":                with(func(b *impl.Base) { b.Objs[0].Rev = b.Rev + 1 }),
		"an Ends without Waits":      with(func(b *impl.Base) { b.Objs[0].Ends = true }),
		"no Waits any more":          with(func(b *impl.Base) { b.Objs[2].Waits = nil }),
		"empty Waits":                with(func(b *impl.Base) { b.Objs[2].Waits = []string{} }),
		"a Log out of order":         with(func(b *impl.Base) { b.Log[0], b.Log[1] = b.Log[1], b.Log[0] }),
		"Changes alike":              with(func(b *impl.Base) { b.Log[1] = b.Log[0] }),
		"the last Changes alike":     with(func(b *impl.Base) { b.Log[4] = changeOf(b.Log[3].Obj, true) }),
		"a Change above Rev":         with(func(b *impl.Base) { b.Log[4].Rev++; b.Log[4].Obj.Rev++ }),
		"a Change's Rev above":       with(func(b *impl.Base) { b.Log[1].Rev++ }),
		"a Change's Rev below":       with(func(b *impl.Base) { b.Log[3].Rev-- }),
		"an Obj's Rev above":         with(func(b *impl.Base) { b.Log[1].Obj.Rev++ }),
		"an Obj's Rev below":         with(func(b *impl.Base) { b.Log[3].Obj.Rev-- }),
		"a Change at 0":              with(func(b *impl.Base) { b.Log[0].Rev, b.Log[0].Obj.Rev = 0, 0 }),
		"a Change below 0":           with(func(b *impl.Base) { b.Log[0].Rev, b.Log[0].Obj.Rev = -1, -1 }),
		"an end without Waits":       with(func(b *impl.Base) { b.Log[3].Obj.Waits = nil }),
		"an end that is not Gone":    with(func(b *impl.Base) { b.Log[4].Gone = false }),
		"a Change, but no Rev":       {Rev: 0, Next: 2, Log: logOf(1, 1)},
		"a Change, but no Next":      {Rev: 1, Next: 1, Log: logOf(1, 1)},
		"Objs as right as those may": with(func(b *impl.Base) { b.Next = 6 }),
		"the zero Change":            with(func(b *impl.Base) { b.Log[0] = impl.Change{} }),
	}
	for _, n := range []int{-1, mostRev + 1, 1 << 32, 1<<32 + 9, math.MaxInt, math.MinInt} {
		out["a Rev of "+strconv.Itoa(n)] = with(func(b *impl.Base) { b.Rev = n })
		out["a Next of "+strconv.Itoa(n)] = with(func(b *impl.Base) { b.Next = n })
		out["nothing, and a Rev of "+strconv.Itoa(n)] = impl.Base{Rev: n, Next: 1}
		out["nothing, and a Next of "+strconv.Itoa(n)] = impl.Base{Next: n}
	}
	out["a Next of 0"] = with(func(b *impl.Base) { b.Next = 0 })
	for why, spoil := range spoilObj(9, 7) {
		for i := range 8 {
			out["place "+strconv.Itoa(i)+": "+why] = with(func(b *impl.Base) { spoil(placeIn(b, i)) })
		}
	}
	values := wrongValues()
	for i, why := range slices.Sorted(maps.Keys(values)) {
		out["a Spec: "+why] = with(func(b *impl.Base) { placeIn(b, i%8).Spec = values[why] })
		out["a Status: "+why] = with(func(b *impl.Base) { placeIn(b, (i+3)%8).Status = values[why] })
	}
	return out
}

// placeIn is one of the three objects of small, or one of the five in its Log.
func placeIn(b *impl.Base, i int) *impl.Obj {
	if i < 3 {
		return &b.Objs[i]
	}
	return &b.Log[i-3].Obj
}

func TestBaseOk(t *testing.T) {
	tellsApart(t, rightBases(), wrongBases(), isBase, impl.BaseOk)
}

// At each number of a base, of an object and of a Change, what is met is accepted, and what passes it by one is not.
func TestBaseOkOfAllSmallNumbers(t *testing.T) {
	right := 0
	eachRow(5, -1, 3, func(n []int) {
		o := objOf(1, "a", n[2], n[3], "")
		o.Gen = n[4]
		for _, b := range []impl.Base{{Objs: []impl.Obj{o}}, {Log: []impl.Change{changeOf(o, false)}}, {Objs: []impl.Obj{o}, Log: []impl.Change{changeOf(o, true)}}} {
			b.Rev, b.Next = n[0], n[1]
			if impl.BaseOk(b) != isBase(b) {
				t.Fatalf("%v: %v", b, impl.BaseOk(b))
			}
			if isBase(b) {
				right++
			}
		}
	})
	eachRow(4, 0, 3, func(n []int) {
		for _, flags := range []int{0, 1, 2, 3} {
			first, last := objOf(1, "a", 1, n[0], ""), objOf(1, "a", 1, n[1], strings.Repeat("hub ", flags/2))
			last.Ends = flags%2 == 1
			b := impl.Base{Rev: 2, Next: 2, Log: []impl.Change{{Rev: n[2], Obj: first}, {Rev: n[3], Obj: last, Gone: (n[0]+flags)%2 == 1}}}
			if impl.BaseOk(b) != isBase(b) {
				t.Fatalf("%v: %v", b, impl.BaseOk(b))
			}
		}
	})
	if right < 30 {
		t.Error("too few were tried:", right)
	}
}

// How many objects, Changes and Waits there may be, and how far Rev and Next go.
func TestBaseOkAtTheLimits(t *testing.T) {
	for n := mostObjs - 1; n <= mostObjs+2; n++ {
		if impl.BaseOk(impl.Base{Objs: crowd(n), Rev: 99, Next: 99}) != (n <= mostObjs) {
			t.Error(n, "objects")
		}
	}
	for n := mostLog - 1; n <= mostLog+2; n++ {
		if impl.BaseOk(impl.Base{Rev: 99, Next: 99, Log: logOf(n, 5)}) != (n <= mostLog) {
			t.Error(n, "Changes")
		}
	}
	for n := range 7 {
		for ends := range 2 {
			o := objOf(1, "a", 1, 1, strings.Join(ascendingNames(n), " "))
			o.Ends = ends == 1
			kept := impl.BaseOk(impl.Base{Objs: []impl.Obj{o}, Rev: 1, Next: 2})
			told := impl.BaseOk(impl.Base{Rev: 1, Next: 2, Log: []impl.Change{changeOf(o, false)}})
			gone := impl.BaseOk(impl.Base{Rev: 1, Next: 2, Log: []impl.Change{changeOf(o, true)}})
			if right := n <= 4 && (n > 0 || !o.Ends); kept != right || told != right || gone != (n <= 4) {
				t.Error(n, "Waits", o.Ends, kept, told, gone)
			}
		}
	}
	for _, rev := range []int{-1, 0, mostRev - 1, mostRev, mostRev + 1} {
		for _, next := range []int{0, 1, mostRev - 1, mostRev, mostRev + 1} {
			if impl.BaseOk(impl.Base{Rev: rev, Next: next}) != (0 <= rev && rev <= mostRev && 1 <= next && next <= mostRev) {
				t.Error(rev, next)
			}
		}
	}
}

// allCalls are calls of each kind that name something there in small, or nearly, with right arguments.
func allCalls() []call {
	out := []call{}
	for _, o := range append(slices.Clone(small().Objs), objOf(1, "new", 0, 0, ""), objOf(3, "web", 0, 0, ""), objOf(2, "z", 0, 0, "")) {
		for _, v := range []impl.Value{o.Spec, numOf(5)} {
			out = append(out, create(o.Kind, o.Name, v, ""), create(o.Kind, o.Name, v, "a b c d"))
			for _, rev := range []int{o.Rev, o.Rev - 1, o.Rev + 1, 0, -1, 9, 10, mostRev, mostRev + 1, math.MaxInt, math.MinInt} {
				out = append(out, update(o.Kind, o.Name, rev, v), status(o.Kind, o.Name, rev, v))
			}
		}
		out = append(out, remove(o.Kind, o.Name), finish(o.Kind, o.Name, "hub"), finish(o.Kind, o.Name, "net"), finish(o.Kind, o.Name, "ne"))
	}
	return out
}

// wrongCalls have an argument that is not as told; what they name may be there in small.
func wrongCalls() []call {
	out := []call{}
	for _, name := range []string{"web", "z", "new"} {
		for _, kind := range wrongKinds {
			out = append(out, create(kind, name, numOf(1), ""), update(kind, name, 3, numOf(1)), status(kind, name, 3, numOf(1)), remove(kind, name), finish(kind, name, "hub"))
		}
		for _, w := range wrongRows(4) {
			c := create(1, name, numOf(1), "")
			c.waits = w
			out = append(out, c)
		}
		for _, s := range wrongNames {
			out = append(out, create(1, s, numOf(1), ""), update(1, s, 3, numOf(1)), status(1, s, 3, numOf(1)), remove(1, s), finish(1, s, "hub"), finish(1, name, s))
		}
	}
	for _, v := range wrongValues() {
		out = append(out, create(1, "new", v, ""), create(1, "web", v, ""), update(1, "web", 3, v), update(1, "web", 2, v), update(2, "isle", 8, v), update(1, "new", 0, v), status(1, "web", 3, v), status(2, "isle", 1, v), status(1, "new", 0, v))
	}
	return out
}

// Of what is not as told the answer is the base that came in, and StForm.
func TestStoreRefuses(t *testing.T) {
	for why, b := range wrongBases() {
		for _, c := range []call{create(1, "new", numOf(1), ""), create(1, "web", numOf(1), ""), update(1, "web", 3, numOf(1)), update(1, "web", 2, numOf(1)), status(1, "web", 3, numOf(1)), remove(1, "web"), remove(1, "none"), finish(1, "z", "hub"), finish(1, "z", "none")} {
			if got, code := c.at(b); code != impl.StForm || !sameBases(got, b) {
				t.Errorf("%.60s: %.100v: %d", why, c, code)
			}
		}
	}
	full := with(func(b *impl.Base) { b.Rev = mostRev })
	for _, c := range wrongCalls() {
		for _, b := range []impl.Base{small(), full, {}} {
			if got, code := c.at(b); code != impl.StForm || !sameBases(got, b) {
				t.Errorf("%.100v: %d", c, code)
			}
		}
		if c.isRight() {
			t.Fatalf("%.100v: the test is wrong", c)
		}
	}
}

func TestCallsOfRightBases(t *testing.T) {
	for _, c := range allCalls() {
		goesRight(t, small(), c)
	}
	for _, b := range rightBases() {
		for _, c := range []call{create(1, "new", numOf(1), "a b"), create(1, "web", numOf(1), ""), create(2, "a", numOf(1), ""), update(1, "web", 3, numOf(1)), update(1, "a", 1, numOf(1)), status(1, "web", 3, numOf(1)), status(2, "isle", 8, numOf(1)), remove(1, "web"), remove(1, "k000"), remove(1, "k059"), remove(2, "isle"), finish(2, "isle", "hub"), finish(1, "z", "net")} {
			goesRight(t, b, c)
		}
	}
}

// A run of calls, each with its code, and what there is behind it.
func TestCallsOneBehindTheOther(t *testing.T) {
	one, two, b := numOf(1), numOf(2), impl.BaseNew()
	for i, x := range []struct {
		call
		code       int
		objs, last string
	}{
		{create(1, "web", one, "hub net"), 0, "1 web u1 r1 g1 hub net", "1: 1 web u1 r1 g1 hub net"},
		{create(1, "web", one, ""), impl.StThere, "1 web u1 r1 g1 hub net", "1: 1 web u1 r1 g1 hub net"},
		{create(3, "web", one, ""), 0, "1 web u1 r1 g1 hub net, 3 web u2 r2 g1", "2: 3 web u2 r2 g1"},
		{create(1, "db", two, ""), 0, "1 db u3 r3 g1, 1 web u1 r1 g1 hub net, 3 web u2 r2 g1", "3: 1 db u3 r3 g1"},
		{update(1, "web", 1, one), 0, "1 db u3 r3 g1, 1 web u1 r4 g1 hub net, 3 web u2 r2 g1", "4: 1 web u1 r4 g1 hub net"},
		{update(1, "web", 1, two), impl.StStale, "1 db u3 r3 g1, 1 web u1 r4 g1 hub net, 3 web u2 r2 g1", "4: 1 web u1 r4 g1 hub net"},
		{update(1, "web", 5, two), impl.StStale, "1 db u3 r3 g1, 1 web u1 r4 g1 hub net, 3 web u2 r2 g1", "4: 1 web u1 r4 g1 hub net"},
		{update(1, "web", 4, two), 0, "1 db u3 r3 g1, 1 web u1 r5 g2 hub net, 3 web u2 r2 g1", "5: 1 web u1 r5 g2 hub net"},
		{update(1, "web", 5, one), 0, "1 db u3 r3 g1, 1 web u1 r6 g3 hub net, 3 web u2 r2 g1", "6: 1 web u1 r6 g3 hub net"},
		{status(1, "web", 5, two), impl.StStale, "1 db u3 r3 g1, 1 web u1 r6 g3 hub net, 3 web u2 r2 g1", "6: 1 web u1 r6 g3 hub net"},
		{status(1, "web", 6, two), 0, "1 db u3 r3 g1, 1 web u1 r7 g3 hub net, 3 web u2 r2 g1", "7: 1 web u1 r7 g3 hub net"},
		{remove(2, "web"), impl.StNone, "1 db u3 r3 g1, 1 web u1 r7 g3 hub net, 3 web u2 r2 g1", "7: 1 web u1 r7 g3 hub net"},
		{remove(3, "web"), 0, "1 db u3 r3 g1, 1 web u1 r7 g3 hub net", "8: 3 web u2 r8 g1 gone"},
		{finish(3, "web", "hub"), impl.StNone, "1 db u3 r3 g1, 1 web u1 r7 g3 hub net", "8: 3 web u2 r8 g1 gone"},
		{remove(1, "web"), 0, "1 db u3 r3 g1, 1 web u1 r9 g3 hub net ends", "9: 1 web u1 r9 g3 hub net ends"},
		{remove(1, "web"), 0, "1 db u3 r3 g1, 1 web u1 r9 g3 hub net ends", "9: 1 web u1 r9 g3 hub net ends"},
		{create(1, "web", one, ""), impl.StThere, "1 db u3 r3 g1, 1 web u1 r9 g3 hub net ends", "9: 1 web u1 r9 g3 hub net ends"},
		{update(1, "web", 9, one), impl.StEnds, "1 db u3 r3 g1, 1 web u1 r9 g3 hub net ends", "9: 1 web u1 r9 g3 hub net ends"},
		{update(1, "web", 8, one), impl.StStale, "1 db u3 r3 g1, 1 web u1 r9 g3 hub net ends", "9: 1 web u1 r9 g3 hub net ends"},
		{status(1, "web", 9, one), 0, "1 db u3 r3 g1, 1 web u1 r10 g3 hub net ends", "10: 1 web u1 r10 g3 hub net ends"},
		{status(1, "web", 9, one), impl.StStale, "1 db u3 r3 g1, 1 web u1 r10 g3 hub net ends", "10: 1 web u1 r10 g3 hub net ends"},
		{finish(1, "web", "other"), impl.StNone, "1 db u3 r3 g1, 1 web u1 r10 g3 hub net ends", "10: 1 web u1 r10 g3 hub net ends"},
		{finish(1, "web", "hub"), 0, "1 db u3 r3 g1, 1 web u1 r11 g3 net ends", "11: 1 web u1 r11 g3 net ends"},
		{finish(1, "web", "hub"), impl.StNone, "1 db u3 r3 g1, 1 web u1 r11 g3 net ends", "11: 1 web u1 r11 g3 net ends"},
		{finish(1, "web", "net"), 0, "1 db u3 r3 g1", "12: 1 web u1 r12 g3 ends gone"},
		{create(1, "web", one, "hub"), 0, "1 db u3 r3 g1, 1 web u4 r13 g1 hub", "13: 1 web u4 r13 g1 hub"},
		{finish(1, "web", "hub"), 0, "1 db u3 r3 g1, 1 web u4 r14 g1", "14: 1 web u4 r14 g1"},
		{remove(1, "web"), 0, "1 db u3 r3 g1", "15: 1 web u4 r15 g1 gone"},
		{create(3, "web", one, ""), 0, "1 db u3 r3 g1, 3 web u5 r16 g1", "16: 3 web u5 r16 g1"},
	} {
		var code int
		if b, code = goesRight(t, b, x.call); code != x.code || textOfObjs(b.Objs) != x.objs || textOfLog(b.Log[len(b.Log)-1:]) != x.last || len(b.Log) != b.Rev {
			t.Errorf("%d: %v: %d %q %q", i, x.call, code, textOfObjs(b.Objs), textOfLog(b.Log))
		}
	}
}

// Only the Spec, the Status and the Waits that were asked for become others; a Change tells the whole object.
func TestWhatCallsChange(t *testing.T) {
	b, _ := impl.Create(impl.BaseNew(), 1, "a", valueIn("{x:[1]}"), []string{"hub"})
	want := impl.Obj{Kind: 1, Name: "a", Uid: 1, Rev: 1, Gen: 1, Waits: []string{"hub"}, Spec: valueIn("{x:[1]}"), Status: valueIn("{}")}
	log := []impl.Change{changeOf(want, false)}
	for _, c := range []call{status(1, "a", 1, valueIn(`"up"`)), update(1, "a", 2, valueIn("{x:[2]}")), remove(1, "a"), status(1, "a", 4, valueIn("[]")), finish(1, "a", "hub")} {
		b, _ = goesRight(t, b, c)
		want.Rev++
		switch c.what {
		case "status":
			want.Status = c.value
		case "update":
			want.Spec, want.Gen = c.value, 2
		case "remove":
			want.Ends = true
		case "finish":
			want.Waits = nil
		}
		log = append(log, changeOf(want, c.what == "finish"))
		if got, ok := impl.Get(b, 1, "a"); ok != (c.what != "finish") || ok && !sameObjs([]impl.Obj{got}, []impl.Obj{want}) {
			t.Errorf("%v: %v", c, got)
		}
		if !sameBases(impl.Base{Log: b.Log}, impl.Base{Log: log}) {
			t.Errorf("%v: %v", c, b.Log)
		}
	}
}

// Another Spec makes a Gen, and the same one, however it was made, makes none.
func TestGen(t *testing.T) {
	for _, x := range []struct {
		before, then string
		more         int
	}{
		{"1", "1", 0}, {"1", "2", 1}, {"1", "true", 1}, {"1", `"1"`, 1}, {"0", "false", 1}, {"[]", "{}", 1}, {"[]", "[]", 0}, {"{}", "{}", 0}, {`""`, `""`, 0}, {"{a:1}", "{b:1}", 1}, {"{a:[1,2]}", "{a:[2,1]}", 1}, {deepest, deepest, 0}, {deepest, strings.Replace(deepest, "1", "2", 1), 1},
	} {
		o := objOf(2, "a", 1, 4, "x")
		o.Spec, o.Gen = valueIn(x.before), 3
		b := impl.Base{Objs: []impl.Obj{o}, Rev: 4, Next: 2}
		n, code := goesRight(t, b, update(2, "a", 4, valueIn(x.then)))
		if code != impl.StGood || n.Objs[0].Gen != 3+x.more || n.Objs[0].Rev != 5 || len(n.Log) != 1 {
			t.Errorf("%s and %s: %d %v", x.before, x.then, code, n.Objs)
		}
	}
	o := objOf(1, "a", 1, 1, "")
	empty := impl.Value{Kind: impl.ValList, Keys: []string{}, Kids: []impl.Value{}}
	o.Spec = listOf()
	if n, _ := goesRight(t, impl.Base{Objs: []impl.Obj{o}, Rev: 1, Next: 2}, update(1, "a", 1, empty)); n.Objs[0].Gen != 1 {
		t.Error("an empty list is another one than nil")
	}
}

// filled has MaxObjs objects, the one in place 1 with a Wait, the one in place 2 ends; Rev and Next are far up.
func filled() impl.Base {
	b := impl.Base{Objs: crowd(mostObjs), Rev: 100, Next: 100}
	b.Objs[1].Waits, b.Objs[2].Waits, b.Objs[2].Ends = []string{"hub"}, []string{"hub"}, true
	return b
}

// Where several codes apply, the one that the document names first is answered.
func TestOrderOfCodes(t *testing.T) {
	atRev, atNext, notFull := filled(), filled(), filled()
	atRev.Rev, atNext.Next, notFull.Objs = mostRev, mostRev, notFull.Objs[:mostObjs-1]
	broken := filled()
	broken.Objs[5].Uid = 0
	brokenAtRev := copiedBase(broken)
	brokenAtRev.Rev = mostRev
	no := impl.Value{}
	one := numOf(1)
	for what, x := range map[string]struct {
		b impl.Base
		call
		code int
	}{
		"create: broken and there": {broken, create(1, "k000", one, ""), impl.StForm}, "create: broken and at MaxRev": {brokenAtRev, create(1, "k000", one, ""), impl.StForm}, "create: no Spec, at MaxRev": {atRev, create(1, "new", no, ""), impl.StForm}, "create: no Spec, there": {filled(), create(1, "k000", no, ""), impl.StForm}, "create: no Spec, full": {filled(), create(1, "new", no, ""), impl.StForm}, "create: wrong Waits, at the last Next": {atNext, create(1, "new", one, "b a"), impl.StForm},
		"create: at MaxRev and there": {atRev, create(1, "k000", one, ""), impl.StFull}, "create: at the last Next and there": {atNext, create(1, "k000", one, ""), impl.StFull}, "create: there and full": {filled(), create(1, "k000", one, ""), impl.StThere}, "create: full": {filled(), create(1, "new", one, ""), impl.StFull}, "create: one that ends, and full": {filled(), create(1, "k002", one, ""), impl.StThere}, "create: another Kind, full": {filled(), create(2, "k000", one, ""), impl.StFull}, "create: room for one": {notFull, create(1, "new", one, ""), impl.StGood},
		"update: broken and not there": {broken, update(1, "new", 1, one), impl.StForm}, "update: no Spec, not there": {filled(), update(1, "new", 1, no), impl.StForm}, "update: no Spec, stale": {filled(), update(1, "k000", 2, no), impl.StForm}, "update: no Spec, ends": {filled(), update(1, "k002", 3, no), impl.StForm}, "update: no Spec, at MaxRev": {atRev, update(1, "k000", 1, no), impl.StForm},
		"update: at MaxRev, not there": {atRev, update(1, "new", 1, one), impl.StFull}, "update: at MaxRev, stale": {atRev, update(1, "k000", 2, one), impl.StFull}, "update: at MaxRev, ends": {atRev, update(1, "k002", 3, one), impl.StFull}, "update: at the last Next": {atNext, update(1, "k000", 1, one), impl.StFull}, "update: at the last Next, not there": {atNext, update(1, "new", 1, one), impl.StFull},
		"update: not there": {filled(), update(1, "new", 0, one), impl.StNone}, "update: another Kind": {filled(), update(2, "k000", 1, one), impl.StNone}, "update: stale and ends": {filled(), update(1, "k002", 2, one), impl.StStale}, "update: ends": {filled(), update(1, "k002", 3, one), impl.StEnds}, "update: ends, the same Spec": {filled(), update(1, "k002", 3, filled().Objs[2].Spec), impl.StEnds}, "update: waits": {filled(), update(1, "k001", 2, one), impl.StGood},
		"status: broken and stale": {broken, status(1, "k000", 2, one), impl.StForm}, "status: no Status, stale": {filled(), status(1, "k000", 2, no), impl.StForm}, "status: no Status, not there": {filled(), status(1, "new", 2, no), impl.StForm}, "status: at MaxRev, stale": {atRev, status(1, "k000", 2, one), impl.StFull}, "status: at MaxRev, not there": {atRev, status(1, "new", 2, one), impl.StFull}, "status: at the last Next": {atNext, status(1, "k000", 1, one), impl.StFull},
		"status: not there": {filled(), status(1, "new", 0, one), impl.StNone}, "status: stale and ends": {filled(), status(1, "k002", 2, one), impl.StStale}, "status: ends": {filled(), status(1, "k002", 3, one), impl.StGood},
		"remove: broken and not there": {broken, remove(1, "new"), impl.StForm}, "remove: at MaxRev, no Kind": {atRev, remove(4, "k000"), impl.StForm}, "remove: at MaxRev, not there": {atRev, remove(1, "new"), impl.StFull}, "remove: at MaxRev": {atRev, remove(1, "k000"), impl.StFull}, "remove: at MaxRev, waits": {atRev, remove(1, "k001"), impl.StFull}, "remove: at MaxRev, ends already": {atRev, remove(1, "k002"), impl.StFull}, "remove: at the last Next, ends already": {atNext, remove(1, "k002"), impl.StFull},
		"remove: not there": {filled(), remove(1, "new"), impl.StNone}, "remove: another Kind": {filled(), remove(3, "k000"), impl.StNone}, "remove: ends already": {filled(), remove(1, "k002"), impl.StGood},
		"finish: broken and not there": {broken, finish(1, "new", "hub"), impl.StForm}, "finish: no name, not there": {filled(), finish(1, "new", ""), impl.StForm}, "finish: no name, does not wait": {filled(), finish(1, "k000", "Hub"), impl.StForm}, "finish: no name, at MaxRev": {atRev, finish(1, "k001", ""), impl.StForm}, "finish: at MaxRev, not there": {atRev, finish(1, "new", "hub"), impl.StFull}, "finish: at MaxRev, does not wait": {atRev, finish(1, "k001", "net"), impl.StFull}, "finish: at the last Next": {atNext, finish(1, "k002", "hub"), impl.StFull},
		"finish: not there": {filled(), finish(1, "new", "hub"), impl.StNone}, "finish: does not wait": {filled(), finish(1, "k000", "hub"), impl.StNone}, "finish: waits for another one": {filled(), finish(1, "k001", "net"), impl.StNone}, "finish: waits": {filled(), finish(1, "k001", "hub"), impl.StGood},
	} {
		if _, code := goesRight(t, x.b, x.call); code != x.code {
			t.Errorf("%s: %d, not %d", what, code, x.code)
		}
	}
}

// The last revision and the last Uid are given, and no more behind them.
func TestRevAndNextAtTheMost(t *testing.T) {
	for _, c := range []call{create(1, "new", numOf(1), "a"), update(1, "web", 3, numOf(1)), status(1, "web", 3, numOf(1)), remove(1, "web"), remove(1, "z"), finish(1, "z", "hub"), finish(2, "isle", "hub"), remove(2, "isle")} {
		for _, rev := range []int{mostRev - 2, mostRev - 1, mostRev} {
			for _, next := range []int{mostRev - 2, mostRev - 1, mostRev} {
				b := with(func(b *impl.Base) { b.Rev, b.Next = rev, next })
				got, code := goesRight(t, b, c)
				if (code == impl.StFull) != (rev == mostRev || next == mostRev) || code != impl.StFull && code != impl.StGood || got.Rev > mostRev || got.Next > mostRev {
					t.Errorf("%v at %d and %d: %d", c, rev, next, code)
				}
			}
		}
	}
	b := with(func(b *impl.Base) { b.Rev, b.Next = mostRev-1, mostRev-1 })
	got, _ := impl.Create(b, 3, "last", numOf(1), nil)
	o, _ := impl.Get(got, 3, "last")
	if o.Uid != mostRev-1 || o.Rev != mostRev || got.Next != mostRev || got.Rev != mostRev || !impl.BaseOk(got) {
		t.Error(o, got.Rev, got.Next)
	}
}

// Whoever comes with another revision than the object's changes nothing.
func TestAnOldRevisionChangesNothing(t *testing.T) {
	revs := append([]int{math.MaxInt, math.MinInt, mostRev, mostRev + 1, 1<<32 + 3, 1<<32 + 8}, farNumbers...)
	for n := -2; n <= 12; n++ {
		revs = append(revs, n)
	}
	b := small()
	for _, o := range b.Objs {
		for _, rev := range revs {
			for _, c := range []call{update(o.Kind, o.Name, rev, numOf(1)), update(o.Kind, o.Name, rev, o.Spec), status(o.Kind, o.Name, rev, numOf(1)), status(o.Kind, o.Name, rev, o.Status)} {
				got, code := goesRight(t, b, c)
				if (code == impl.StStale) != (rev != o.Rev) || rev != o.Rev && !sameBases(got, small()) {
					t.Errorf("%v: %d", c, code)
				}
			}
		}
	}
	// Of two who read the same, the second one is refused, until it has read again.
	first, _ := goesRight(t, b, update(1, "web", 3, numOf(1)))
	second, code := goesRight(t, first, update(1, "web", 3, numOf(2)))
	if code != impl.StStale || !sameBases(first, second) {
		t.Error("a change was lost unseen")
	}
	o, _ := impl.Get(second, 1, "web")
	if third, code := goesRight(t, second, update(1, "web", o.Rev, numOf(2))); code != impl.StGood || third.Objs[0].Gen != 3 {
		t.Error(code, third.Objs)
	}
}

// orders calls do with l in each order.
func orders(l []string, do func(l []string)) {
	if len(l) == 0 {
		do(nil)
		return
	}
	for i := range l {
		rest := slices.Concat(l[:i], l[i+1:])
		orders(rest, func(r []string) { do(append([]string{l[i]}, r...)) })
	}
}

// Whatever the order in which what it waits for is done, an object that was removed is there until all of it is, and one that wasn't stays.
func TestWhatEndsWaitsForAll(t *testing.T) {
	for n := range 5 {
		names := ascendingNames(n)
		orders(names, func(order []string) {
			for removedAt := range n + 2 {
				b, _ := goesRight(t, impl.BaseNew(), create(2, "a", numOf(1), strings.Join(names, " ")))
				for done := range n + 1 {
					if done == removedAt {
						b, _ = goesRight(t, b, remove(2, "a"))
					}
					o, there := impl.Get(b, 2, "a")
					if there != (done < n || removedAt > n) || there && (o.Ends != (removedAt <= done) || len(o.Waits) != n-done || o.Uid != 1) {
						t.Fatalf("%v, removed at %d, %d done: %v %v", order, removedAt, done, there, o)
					}
					if last := b.Log[len(b.Log)-1]; last.Gone == there || last.Gone && (len(last.Obj.Waits) != 0 || last.Obj.Ends != (removedAt < n)) {
						t.Fatalf("%v, removed at %d, %d done: %v", order, removedAt, done, last)
					}
					if done < n {
						b, _ = goesRight(t, b, finish(2, "a", order[done]))
					}
				}
			}
		})
	}
}

// What was taken away and comes again under its name has another Uid, and the Uid that was is never given again.
func TestUidsOnlyRise(t *testing.T) {
	b, last := impl.BaseNew(), 0
	for i := range 50 {
		kind, name := 1+i%2, []string{"a", "b", "a"}[i%3]
		b, _ = goesRight(t, b, create(kind, name, numOf(1), strings.Repeat("hub", i%2)))
		o, _ := impl.Get(b, kind, name)
		if o.Uid <= last || o.Gen != 1 || o.Ends || !alike(o.Status, mapOf("")) {
			t.Fatalf("%d: %v behind %d", i, o, last)
		}
		last = o.Uid
		for _, c := range []call{remove(kind, name), finish(kind, name, "hub")} {
			b, _ = goesRight(t, b, c)
		}
		if len(b.Objs) != 0 || b.Next != last+1 {
			t.Fatalf("%d: %v", i, b.Objs)
		}
	}
}

// Log has the newest MaxLog Changes, and none is missing among them.
func TestAFullLog(t *testing.T) {
	b := impl.BaseNew()
	b, _ = goesRight(t, b, create(1, "a", numOf(0), ""))
	for i := 2; i <= 100; i++ {
		b, _ = goesRight(t, b, update(1, "a", i-1, numOf(i)))
		if len(b.Log) != min(i, mostLog) {
			t.Fatalf("%d: %d Changes", i, len(b.Log))
		}
		for j, c := range b.Log {
			if n := i - len(b.Log) + 1 + j; c.Rev != n || c.Obj.Rev != n || c.Gone || n > 1 && c.Obj.Spec.Num != n {
				t.Fatalf("%d: %d is %v", i, j, c)
			}
		}
	}
	// What is missing in Log stays missing; only the oldest goes.
	for n := mostLog - 2; n <= mostLog; n++ {
		gaps := impl.Base{Objs: []impl.Obj{objOf(1, "a", 1, 1, "")}, Rev: 500, Next: 2, Log: logOf(n, 3)}
		got, _ := goesRight(t, gaps, remove(1, "a"))
		if first := max(3, 3+n+1-mostLog); len(got.Log) != min(n+1, mostLog) || got.Log[0].Rev != first || got.Log[len(got.Log)-1].Rev != 501 {
			t.Errorf("%d: %s", n, textOfLog(got.Log))
		}
	}
}

func TestCreateUpToMaxObjs(t *testing.T) {
	rnd := rand.New(rand.NewSource(7))
	for range 3 {
		b := impl.BaseNew()
		for i, at := range rnd.Perm(mostObjs + 3) {
			kind, name := 1+at%3, ascendingNames(mostObjs + 3)[at]
			var code int
			if b, code = goesRight(t, b, create(kind, name, numOf(at), "")); (code == impl.StGood) != (i < mostObjs) || i >= mostObjs && code != impl.StFull {
				t.Fatalf("%d: %d", i, code)
			}
		}
		b, _ = goesRight(t, b, remove(b.Objs[30].Kind, b.Objs[30].Name))
		if b, _ = goesRight(t, b, create(3, "zz", numOf(1), "")); len(b.Objs) != mostObjs || b.Objs[mostObjs-1].Uid != mostObjs+1 {
			t.Error(textOfObjs(b.Objs))
		}
	}
}

func TestGetAndObjs(t *testing.T) {
	for why, b := range rightBases() {
		byKind := map[int][]impl.Obj{}
		for _, o := range b.Objs {
			byKind[o.Kind] = append(byKind[o.Kind], o)
			if got, ok := impl.Get(b, o.Kind, o.Name); !ok || !sameObjs([]impl.Obj{got}, []impl.Obj{o}) {
				t.Errorf("%.60s: %s: %v %v", why, o.Name, ok, got)
			}
			for _, kind := range append(slices.Clone(wrongKinds), o.Kind+1, o.Kind-1) {
				if got, ok := impl.Get(b, kind, o.Name); ok && got.Kind != kind {
					t.Errorf("%.60s: %s of %d: %v", why, o.Name, kind, got)
				}
			}
		}
		for _, kind := range append([]int{1, 2, 3}, wrongKinds...) {
			if got := impl.Objs(b, kind); !sameObjs(got, byKind[kind]) {
				t.Errorf("%.60s: %d: %s", why, kind, textOfObjs(got))
			}
		}
	}
	b := small()
	for _, x := range []struct {
		kind int
		name string
	}{{2, "web"}, {3, "web"}, {0, "web"}, {1, "isle"}, {3, "old"}, {1, "we"}, {1, "webb"}, {1, "Web"}, {1, ""}, {2, "hub"}, {-1, "z"}, {4, "z"}, {1, "\xff"}} {
		if got, ok := impl.Get(b, x.kind, x.name); ok || !sameObjs([]impl.Obj{got}, []impl.Obj{{}}) {
			t.Errorf("%v: %v", x, got)
		}
	}
	for kind, want := range map[int]string{1: "1 web u2 r3 g1, 1 z u3 r5 g1 hub net", 2: "2 isle u6 r8 g1 hub ends", 3: "", 0: "", 4: "", -1: ""} {
		if got := textOfObjs(impl.Objs(b, kind)); got != want {
			t.Errorf("%d: %q", kind, got)
		}
	}
	if _, ok := impl.Get(impl.BaseNew(), 1, "a"); ok || len(impl.Objs(impl.BaseNew(), 1)) != 0 || len(impl.Objs(impl.Base{}, 0)) != 0 {
		t.Error("nothing has an object")
	}
}

// Get and Objs ask nothing of the base: they answer what is there, the first one, in the order of the list.
func TestGetAndObjsOfWrongBases(t *testing.T) {
	for why, b := range wrongBases() {
		for _, o := range b.Objs[:min(len(b.Objs), 3)] {
			first, all := impl.Obj{}, []impl.Obj{}
			for _, x := range b.Objs {
				if x.Kind == o.Kind {
					all = append(all, x)
				}
			}
			for _, x := range slices.Backward(all) {
				if x.Name == o.Name {
					first = x
				}
			}
			if got, ok := impl.Get(b, o.Kind, o.Name); !ok || !sameObjs([]impl.Obj{got}, []impl.Obj{first}) {
				t.Errorf("%.60s: %.60s: %v", why, o.Name, ok)
			}
			if !sameObjs(impl.Objs(b, o.Kind), all) {
				t.Errorf("%.60s: %d", why, o.Kind)
			}
		}
	}
}

// Every run of a few calls answers what the words say.
func TestStoreOfAllShortRuns(t *testing.T) {
	var go4 func(b impl.Base, left int)
	go4 = func(b impl.Base, left int) {
		if left == 0 {
			return
		}
		for _, kind := range []int{1, 2} {
			o, _ := impl.Get(b, kind, "a")
			for _, c := range []call{create(kind, "a", numOf(1), ""), create(kind, "a", numOf(1), "x y"), update(kind, "a", o.Rev, numOf(2)), update(kind, "a", o.Rev-1, numOf(3)), status(kind, "a", o.Rev, numOf(2)), remove(kind, "a"), finish(kind, "a", "x"), finish(kind, "a", "y")} {
				next, _ := goesRight(t, b, c)
				go4(next, left-1)
			}
		}
	}
	go4(impl.BaseNew(), 4)
}

// anyCall is mostly right, and mostly of what is there.
func anyCall(rnd *rand.Rand, b impl.Base) call {
	o := objOf(1+rnd.Intn(3), []string{"a", "a-b", "a0", "b", "c", "web", "z", longName}[rnd.Intn(8)], 1, 1, "")
	if len(b.Objs) > 0 && rnd.Intn(3) > 0 {
		o = b.Objs[rnd.Intn(len(b.Objs))]
	}
	c := call{what: []string{"create", "update", "status", "remove", "finish"}[rnd.Intn(5)], kind: o.Kind, name: o.Name, rev: o.Rev}
	switch c.what {
	case "create":
		waits := []string{"db", "hub", "net", "x1", "y"}
		rnd.Shuffle(5, func(i, j int) { waits[i], waits[j] = waits[j], waits[i] })
		c.waits = waits[:max(rnd.Intn(7)-2, 0)]
		if slices.Sort(c.waits); rnd.Intn(30) == 0 {
			c.waits = append(c.waits, "a")
		}
	case "finish":
		c.wait = []string{"db", "hub", "net", "x1", "y", "a"}[rnd.Intn(6)]
		if len(o.Waits) > 0 && rnd.Intn(4) > 0 {
			c.wait = o.Waits[rnd.Intn(len(o.Waits))]
		}
	}
	if c.what == "create" || c.what == "update" || c.what == "status" {
		c.value = anyValue(rnd, 1+rnd.Intn(6))
		if c.what == "update" && rnd.Intn(3) == 0 {
			c.value = copied(o.Spec)
		}
	}
	switch rnd.Intn(40) {
	case 0:
		c.kind = wrongKinds[rnd.Intn(len(wrongKinds))]
	case 1:
		c.name = wrongNames[rnd.Intn(len(wrongNames))]
	case 2, 3, 4:
		c.rev += rnd.Intn(5) - 2
	case 5:
		c.value = impl.Value{Kind: rnd.Intn(6), Num: rnd.Intn(3)}
	}
	return c
}

func TestStoreOfManyCalls(t *testing.T) {
	rnd := rand.New(rand.NewSource(77))
	codes := map[int]int{}
	for range 25 {
		b, owners, before := impl.BaseNew(), map[int]string{}, map[int]int{}
		for range 150 {
			c := anyCall(rnd, b)
			next, code := goesRight(t, b, c)
			codes[code]++
			for _, o := range next.Objs {
				key := keyOf(o.Kind, o.Name)
				if owner, old := owners[o.Uid]; old && owner != key || !old && o.Uid != b.Next {
					t.Fatalf("%v: the Uid %d was of %q", c, o.Uid, owner)
				}
				if o.Rev < before[o.Uid] {
					t.Fatalf("%v: the Rev of %s sank", c, key)
				}
				owners[o.Uid], before[o.Uid] = key, o.Rev
			}
			b = next
		}
	}
	for code := impl.StGood; code <= impl.StEnds; code++ {
		if code != impl.StFull && codes[code] < 50 {
			t.Error("too few were tried:", code, codes[code])
		}
	}
}

// A base's lists, with the room behind each, and what was put there.

func roomyObj(o impl.Obj) impl.Obj {
	o.Waits = append(slices.Clone(o.Waits), "zz", "")[:len(o.Waits)]
	o.Spec, o.Status = roomy(o.Spec), roomy(o.Status)
	return o
}

func roomyBase(b impl.Base) impl.Base {
	objs, log := []impl.Obj{}, []impl.Change{}
	for _, o := range b.Objs {
		objs = append(objs, roomyObj(o))
	}
	for _, c := range b.Log {
		log = append(log, impl.Change{Rev: c.Rev, Gone: c.Gone, Obj: roomyObj(c.Obj)})
	}
	b.Objs = append(objs, objOf(3, "zz", 6, 9, ""), impl.Obj{})[:len(objs)]
	b.Log = append(log, changeOf(objOf(3, "zz", 6, 9, ""), true), impl.Change{})[:len(log)]
	return b
}

func untouchedObj(o impl.Obj) bool {
	return slices.Equal(o.Waits[:len(o.Waits)+2][len(o.Waits):], []string{"zz", ""}) && untouched(o.Spec) && untouched(o.Status)
}

func untouchedBase(b impl.Base) bool {
	for _, o := range b.Objs {
		if !untouchedObj(o) {
			return false
		}
	}
	for _, c := range b.Log {
		if !untouchedObj(c.Obj) {
			return false
		}
	}
	behind := impl.Base{Objs: b.Objs[:len(b.Objs)+2][len(b.Objs):], Log: b.Log[:len(b.Log)+2][len(b.Log):]}
	return sameBases(behind, impl.Base{Objs: []impl.Obj{objOf(3, "zz", 6, 9, ""), {}}, Log: []impl.Change{changeOf(objOf(3, "zz", 6, 9, ""), true), {}}})
}

// objHeads are where the lists of o begin, the room behind them with it.
func objHeads(o impl.Obj) []any {
	out := append(listHeads(o.Spec), listHeads(o.Status)...)
	if cap(o.Waits) > 0 {
		out = append(out, &o.Waits[:1][0])
	}
	return out
}

func baseHeads(b impl.Base) []any {
	out := []any{}
	for _, o := range b.Objs {
		out = append(out, objHeads(o)...)
	}
	for _, c := range b.Log {
		out = append(out, objHeads(c.Obj)...)
	}
	if cap(b.Objs) > 0 {
		out = append(out, &b.Objs[:1][0])
	}
	if cap(b.Log) > 0 {
		out = append(out, &b.Log[:1][0])
	}
	return out
}

// apart tells whether no head is twice among these.
func apart(heads ...[]any) bool {
	met, n := map[any]bool{}, 0
	for _, l := range heads {
		for _, h := range l {
			met[h] = true
			n++
		}
	}
	return len(met) == n
}

// overwrittenBase has all that b's lists hold overwritten, and what lies behind them.
func overwrittenBase(b impl.Base) {
	parts := copiesOfHeaders(b)
	for _, o := range parts {
		for i := range o.Waits[:cap(o.Waits)] {
			o.Waits[:cap(o.Waits)][i] = "changed"
		}
		overwritten(o.Spec)
		overwritten(o.Status)
	}
	for i := range b.Objs[:cap(b.Objs)] {
		b.Objs[:cap(b.Objs)][i] = impl.Obj{Name: "changed"}
	}
	for i := range b.Log[:cap(b.Log)] {
		b.Log[:cap(b.Log)][i] = impl.Change{Rev: 12345}
	}
}

// copiesOfHeaders are the objects of b and of its Changes, which share their lists with it.
func copiesOfHeaders(b impl.Base) []impl.Obj {
	out := slices.Clone(b.Objs)
	for _, c := range b.Log {
		out = append(out, c.Obj)
	}
	return out
}

// sharing is small, right, whose objects and Changes share all the lists that they may.
func sharing() impl.Base {
	kid := mapOf("a b", listOf(numOf(1)), listOf(listOf()))
	v, waits := listOf(kid, kid, kid.Kids[0]), []string{"hub", "net"}
	b := small()
	for i := range b.Objs {
		b.Objs[i].Spec, b.Objs[i].Status = v, kid
	}
	b.Objs[1].Waits, b.Objs[2].Waits = waits, waits[:1]
	b.Log = b.Log[:1]
	for _, o := range b.Objs {
		b.Log = append(b.Log, changeOf(o, false))
	}
	b.Log[0].Obj.Spec = v
	return b
}

// What a call answers shares nothing with its arguments, and no two lists of it are one, whatever its code.
func TestBasesAreNewMemory(t *testing.T) {
	kid := mapOf("a", listOf(numOf(1)))
	v, waits := roomy(listOf(kid, kid, mapOf(""))), append(strings.Fields("hub net"), "zz")[:2]
	codes := map[int]bool{}
	for _, b := range []impl.Base{roomyBase(small()), sharing(), roomyBase(filled()), roomyBase(with(func(b *impl.Base) { b.Rev = mostRev })), roomyBase(with(func(b *impl.Base) { b.Objs[0].Uid = 0 })), {Objs: sharing().Objs, Next: -1}} {
		for _, c := range []call{{what: "create", kind: 3, name: "new", value: v, waits: waits}, create(1, "web", v, ""), update(1, "web", 3, v), update(1, "web", 2, v), update(2, "isle", 8, v), status(1, "web", 3, v), status(1, "none", 3, v), remove(1, "web"), remove(1, "z"), remove(2, "isle"), remove(1, "none"), finish(1, "z", "hub"), finish(2, "isle", "hub"), finish(2, "isle", "no"), create(1, "new", impl.Value{}, "")} {
			before := copiedBase(b)
			got, code := goesRight(t, b, c)
			codes[code] = true
			given := listHeads(c.value)
			if cap(c.waits) > 0 {
				given = append(given, &c.waits[:1][0])
			}
			met := map[any]bool{}
			for _, h := range append(baseHeads(b), given...) {
				met[h] = true
			}
			for _, h := range baseHeads(got) {
				if met[h] {
					t.Fatalf("%v, %d: an argument is shared", c, code)
				}
			}
			if !apart(baseHeads(got)) {
				t.Fatalf("%v, %d: two lists of the answer are one", c, code)
			}
			kept := copiedBase(got)
			overwrittenBase(got)
			if !sameBases(b, before) || len(c.value.Kids) > 0 && !untouched(v) || waits[:3][2] != "zz" {
				t.Fatalf("%v, %d: an argument changed with its answer", c, code)
			}
			if again, _ := c.at(b); !sameBases(again, kept) {
				t.Fatalf("%v, %d: an answer was kept", c, code)
			}
		}
	}
	if len(codes) != 7 {
		t.Error("not every code was tried:", codes)
	}
}

// What Get and Objs answer is new memory, too.
func TestObjsAreNewMemory(t *testing.T) {
	for _, b := range []impl.Base{roomyBase(small()), sharing(), {Objs: sharing().Objs}} {
		before := copiedBase(b)
		for _, o := range b.Objs {
			got, _ := impl.Get(b, o.Kind, o.Name)
			list := impl.Objs(b, o.Kind)
			answer := impl.Base{Objs: append(list, got)}
			if !apart(baseHeads(impl.Base{Objs: list}), objHeads(got)) {
				t.Error(o.Name, "two lists of an answer are one")
			}
			met := map[any]bool{}
			for _, h := range baseHeads(b) {
				met[h] = true
			}
			for _, h := range append(objHeads(got), baseHeads(impl.Base{Objs: list})...) {
				if met[h] {
					t.Error(o.Name, "an argument is shared")
				}
			}
			overwrittenBase(answer)
			if !sameBases(b, before) {
				t.Fatal(o.Name, "an argument changed with its answer")
			}
		}
	}
}

// What lies behind a list's length is neither read nor written.
func TestBehindTheLengthOfBases(t *testing.T) {
	wrong := with(func(b *impl.Base) { b.Objs[1].Waits = []string{"b", "a"} })
	for _, b := range []impl.Base{small(), filled(), impl.BaseNew(), wrong, {Objs: crowd(3), Rev: 3, Next: 4, Log: logOf(mostLog-37, 1)}, {Rev: 50, Next: 7, Log: logOf(mostLog, 1)}} {
		for _, c := range append(allCalls(), create(3, "zz", numOf(1), ""), remove(3, "zz"), finish(1, "z", "zz"), finish(1, "web", "zz")) {
			short := roomyBase(b)
			want, wantCode := c.at(b)
			got, code := c.at(short)
			if code != wantCode || !sameBases(got, want) || !untouchedBase(short) {
				t.Fatalf("%v of %.300v: %d, not %d", c, b, code, wantCode)
			}
		}
		short := roomyBase(b)
		if _, ok := impl.Get(short, 3, "zz"); ok || len(impl.Objs(short, 3)) > 0 || impl.BaseOk(short) != impl.BaseOk(b) || !untouchedBase(short) {
			t.Errorf("%.300v: what lies behind was read", b)
		}
	}
	waits := strings.Fields("a b A b")
	for n := range len(waits) + 1 {
		got, code := impl.Create(impl.BaseNew(), 1, "a", numOf(1), waits[:n])
		if (code == impl.StGood) != (n <= 2) || code == impl.StGood && !slices.Equal(got.Objs[0].Waits, waits[:n]) || !slices.Equal(waits, strings.Fields("a b A b")) {
			t.Error(n, code, got)
		}
	}
}

// Whatever the values of a base are, it comes back where a call refuses it, and every call ends.
func TestBasesOfValuesWithoutEnd(t *testing.T) {
	one := numOf(1)
	for what, v := range map[string]impl.Value{"a ring of one": ring(1, one), "a ring of five": ring(5, one), "rings in rings": ring(3, ring(2, ring(1, one))), "doubled": doubled(70, one), "deep": nested(one, 100000, false), "many": listOf(many(100000, one)...)} {
		b := with(func(b *impl.Base) { b.Objs[0].Spec, b.Objs[1].Status, b.Log[4].Obj.Spec = v, v, v })
		if impl.BaseOk(b) {
			t.Error(what, "is taken")
		}
		for _, c := range []call{create(1, "new", one, ""), update(1, "web", 3, one), status(1, "web", 3, v), remove(1, "web"), finish(1, "z", "hub")} {
			got, code := c.at(b)
			if code != impl.StForm || got.Rev != b.Rev || len(got.Objs) != 3 || len(got.Log) != 5 || !impl.SameValue(got.Objs[0].Spec, v) || !impl.SameValue(got.Objs[1].Status, v) || !impl.SameValue(got.Log[4].Obj.Spec, v) {
				t.Errorf("%s: %s: %d", what, c.what, code)
			}
		}
		for _, c := range []call{create(1, "new", v, ""), update(1, "web", 3, v), status(1, "web", 3, v)} {
			if got, code := c.at(small()); code != impl.StForm || !sameBases(got, small()) {
				t.Errorf("%s: %s: %d", what, c.what, code)
			}
		}
		o, ok := impl.Get(b, 1, "web")
		if l := impl.Objs(b, 1); !ok || !impl.SameValue(o.Spec, v) || len(l) != 2 || !impl.SameValue(l[1].Status, v) {
			t.Error(what, "is not found")
		}
	}
}
