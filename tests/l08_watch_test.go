package tests

import (
	"maps"
	"math"
	"math/rand"
	"slices"
	"strconv"
	"strings"
	"testing"

	"loop.example/g00119/impl"
)

// Promise 8: who catches up has what is listed; what is left out is not followed.

// The document's words once more.

func sinceByWords(b impl.Base, rev int) ([]impl.Change, bool) {
	if !isBase(b) || rev < 0 || rev > b.Rev || b.Rev-rev > len(b.Log) {
		return nil, false
	}
	out, told := []impl.Change{}, map[int]impl.Change{}
	for _, c := range b.Log {
		told[c.Rev] = c
	}
	for n := rev + 1; n <= b.Rev; n++ {
		c, there := told[n]
		if !there {
			return nil, false
		}
		out = append(out, c)
	}
	return out, true
}

// isMirror asks for what a base of these objects would be, had it a Next above all Uids.
func isMirror(m impl.Mirror) bool {
	b := impl.Base{Rev: m.Rev, Next: mostRev}
	uids := map[int]int{}
	for _, o := range m.Objs {
		if _, met := uids[o.Uid]; !met && o.Uid > 0 {
			uids[o.Uid] = len(uids) + 1
		}
		o.Uid = uids[o.Uid]
		b.Objs = append(b.Objs, o)
	}
	return isBase(b)
}

func followByWords(m impl.Mirror, list []impl.Change) (impl.Mirror, bool) {
	if !isMirror(m) {
		return m, false
	}
	now := m
	for _, c := range list {
		objs, key := map[string]impl.Obj{}, keyOf(c.Obj.Kind, c.Obj.Name)
		for _, o := range now.Objs {
			objs[keyOf(o.Kind, o.Name)] = o
		}
		o, there := objs[key]
		if c.Rev != now.Rev+1 || c.Gone && (!there || o.Uid != c.Obj.Uid) {
			return m, false
		}
		objs[key] = c.Obj
		if c.Gone {
			delete(objs, key)
		}
		now = impl.Mirror{Rev: c.Rev}
		for _, key := range slices.Sorted(maps.Keys(objs)) {
			now.Objs = append(now.Objs, objs[key])
		}
		if !isMirror(now) {
			return m, false
		}
	}
	return now, true
}

func listByWords(b impl.Base) impl.Mirror {
	if !isBase(b) {
		return impl.Mirror{}
	}
	return impl.Mirror{Rev: b.Rev, Objs: b.Objs}
}

func catchUpByWords(m impl.Mirror, b impl.Base) (impl.Mirror, bool) {
	if l, ok := sinceByWords(b, m.Rev); ok {
		if n, ok := followByWords(m, l); ok {
			return n, true
		}
	}
	return listByWords(b), false
}

func copiedMirror(m impl.Mirror) impl.Mirror {
	return impl.Mirror{Rev: m.Rev, Objs: copiedObjs(m.Objs)}
}

func sameMirrors(a, b impl.Mirror) bool {
	return a.Rev == b.Rev && sameObjs(a.Objs, b.Objs)
}

func sameLogs(a, b []impl.Change) bool {
	return sameBases(impl.Base{Log: a}, impl.Base{Log: b})
}

func copiedLog(list []impl.Change) []impl.Change {
	return copiedBase(impl.Base{Log: list}).Log
}

// These ask the program for what the words say, and tell the answer.

func sinceRight(t *testing.T, b impl.Base, rev int) ([]impl.Change, bool) {
	t.Helper()
	kept := copiedBase(b)
	want, wantOk := sinceByWords(b, rev)
	got, ok := impl.Since(b, rev)
	if ok != wantOk || !sameLogs(got, want) || !sameBases(b, kept) {
		t.Fatalf("since %d of %.300v: %v %s, not %v %s", rev, kept, ok, textOfLog(got), wantOk, textOfLog(want))
	}
	return got, ok
}

func followsRight(t *testing.T, m impl.Mirror, list []impl.Change) (impl.Mirror, bool) {
	t.Helper()
	kept, keptList := copiedMirror(m), copiedLog(list)
	want, wantOk := followByWords(m, list)
	got, ok := impl.Follow(m, list)
	if ok != wantOk || !sameMirrors(got, want) {
		t.Fatalf("%.300v behind %.300v: %v %.300v, not %v %.300v", m, list, ok, got, wantOk, want)
	}
	if !sameMirrors(m, kept) || !sameLogs(list, keptList) {
		t.Fatalf("%.300v behind %.300v: an argument was changed", kept, keptList)
	}
	if ok && !impl.MirrorOk(got) || !ok && !sameMirrors(got, m) {
		t.Fatalf("%.300v behind %.300v: %v", m, list, ok)
	}
	return got, ok
}

func catchesUpRight(t *testing.T, m impl.Mirror, b impl.Base) (impl.Mirror, bool) {
	t.Helper()
	kept, keptB := copiedMirror(m), copiedBase(b)
	want, wantOk := catchUpByWords(m, b)
	got, ok := impl.CatchUp(m, b)
	if ok != wantOk || !sameMirrors(got, want) {
		t.Fatalf("%.300v up to %.300v: %v %.300v, not %v %.300v", m, b, ok, got, wantOk, want)
	}
	if !sameMirrors(m, kept) || !sameBases(b, keptB) {
		t.Fatalf("%.300v up to %.300v: an argument was changed", kept, keptB)
	}
	return got, ok
}

// numbersIn are the numbers in a text, "3-6" being 3, 4, 5 and 6.
func numbersIn(s string) []int {
	out := []int{}
	for _, w := range strings.Fields(s) {
		from, to, many := strings.Cut(w, "-")
		n, _ := strconv.Atoi(from)
		last := n
		if many {
			last, _ = strconv.Atoi(to)
		}
		for ; n <= last; n++ {
			out = append(out, n)
		}
	}
	return out
}

// told is a base of this Rev without objects, with a Change in Log at each of these.
func told(rev int, at string) impl.Base {
	b := impl.Base{Rev: rev, Next: 2}
	for _, n := range numbersIn(at) {
		b.Log = append(b.Log, changeOf(objOf(1, "a", 1, n, ""), n%5 == 0))
	}
	return b
}

func revsOf(list []impl.Change) []int {
	out := []int{}
	for _, c := range list {
		out = append(out, c.Rev)
	}
	return out
}

func TestSince(t *testing.T) {
	for _, x := range []struct {
		rev   int
		log   string
		since int
		ok    bool
		want  string
	}{
		{0, "", 0, true, ""}, {0, "", 1, false, ""}, {0, "", -1, false, ""},
		{1, "1", 0, true, "1"}, {1, "1", 1, true, ""}, {1, "1", 2, false, ""}, {1, "1", -1, false, ""},
		{4, "1-4", 0, true, "1-4"}, {4, "1-4", 1, true, "2-4"}, {4, "1-4", 3, true, "4"}, {4, "1-4", 4, true, ""}, {4, "1-4", 5, false, ""}, {4, "1-4", -1, false, ""},
		// Without a Log, with none of the first, with none of the last.
		{4, "", 4, true, ""}, {4, "", 3, false, ""}, {4, "", 0, false, ""}, {4, "", 5, false, ""},
		{5, "3-5", 2, true, "3-5"}, {5, "3-5", 1, false, ""}, {5, "3-5", 0, false, ""}, {5, "3-5", 3, true, "4 5"}, {5, "3-5", 5, true, ""}, {5, "5", 4, true, "5"}, {5, "5", 3, false, ""},
		{5, "1-4", 5, true, ""}, {5, "1-4", 4, false, ""}, {5, "1-4", 3, false, ""}, {5, "1-4", 0, false, ""}, {9, "1", 8, false, ""}, {9, "1", 9, true, ""},
		// With a gap, with two.
		{6, "1-3 5 6", 4, true, "5 6"}, {6, "1-3 5 6", 5, true, "6"}, {6, "1-3 5 6", 3, false, ""}, {6, "1-3 5 6", 2, false, ""}, {6, "1-3 5 6", 0, false, ""},
		{6, "1 3 6", 5, true, "6"}, {6, "1 3 6", 4, false, ""}, {6, "1 3 6", 2, false, ""}, {6, "1 3 6", 0, false, ""}, {6, "2-6", 0, false, ""}, {6, "2-6", 1, true, "2-6"}, {6, "1-5", 6, true, ""},
		// As many as Log may have.
		{40, "1-40", 0, true, "1-40"}, {40, "1-40", 39, true, "40"}, {41, "2-41", 1, true, "2-41"}, {41, "2-41", 0, false, ""}, {41, "2-41", 2, true, "3-41"}, {41, "1-39 41", 0, false, ""}, {41, "1-40", 0, false, ""}, {41, "1-40", 41, true, ""}, {90, "51-90", 50, true, "51-90"}, {90, "51-90", 49, false, ""}, {90, "51-90", 0, false, ""}, {90, "1-40", 50, false, ""},
		{mostRev, "999961-1000000", mostRev - 40, true, "999961-1000000"}, {mostRev, "999961-1000000", mostRev - 41, false, ""}, {mostRev, "999961-1000000", 0, false, ""}, {mostRev, "999961-1000000", mostRev, true, ""}, {mostRev, "999961-1000000", mostRev + 1, false, ""}, {mostRev, "", mostRev, true, ""}, {mostRev, "", mostRev - 1, false, ""}, {mostRev, "", 0, false, ""},
		{4, "1-4", math.MaxInt, false, ""}, {4, "1-4", math.MinInt, false, ""}, {4, "1-4", math.MinInt + 4, false, ""}, {4, "1-4", 1 << 32, false, ""}, {4, "1-4", 1<<32 + 3, false, ""}, {4, "1-4", -1 << 32, false, ""}, {4, "1-4", mostRev, false, ""},
	} {
		b := told(x.rev, x.log)
		if got, ok := sinceRight(t, b, x.since); ok != x.ok || !slices.Equal(revsOf(got), numbersIn(x.want)) || !impl.BaseOk(b) {
			t.Errorf("%d of %q, since %d: %v %v", x.rev, x.log, x.since, ok, revsOf(got))
		}
	}
}

// Whichever Changes are missing, Since goes just where none above is.
func TestSinceOfAllSmallLogs(t *testing.T) {
	for rev := range 7 {
		for set := range 1 << rev {
			log := ""
			for n := 1; n <= rev; n++ {
				if set>>(n-1)&1 == 1 {
					log += " " + strconv.Itoa(n)
				}
			}
			for since := -2; since <= rev+2; since++ {
				_, ok := sinceRight(t, told(rev, log), since)
				if all := 0 <= since && since <= rev && set>>since == 1<<(rev-since)-1; ok != all {
					t.Errorf("%d of %q, since %d: %v", rev, log, since, ok)
				}
			}
		}
	}
}

// revsAround are revisions that Since may be asked for at a base of this Rev.
func revsAround(rev int) []int {
	out := []int{-1, 0, 1, 2, 5, 8, mostRev, mostRev + 1, math.MaxInt, math.MinInt, 1 << 32, 1<<32 + 1}
	for _, less := range []int{-2, -1, 0, 1, 2, 5, mostLog - 1, mostLog, mostLog + 1, mostObjs} {
		out = append(out, rev-less)
	}
	return out
}

func TestSinceOfBases(t *testing.T) {
	for _, b := range rightBases() {
		for _, rev := range revsAround(b.Rev) {
			sinceRight(t, b, rev)
		}
	}
	for why, b := range wrongBases() {
		for _, rev := range []int{0, 1, 8, 9, 10, -1, b.Rev, b.Rev - 1} {
			if got, ok := impl.Since(b, rev); ok || len(got) > 0 {
				t.Errorf("%.60s: since %d: %s", why, rev, textOfLog(got))
			}
		}
	}
}

// smallMirror is what there is in small: web with the Uid 2, z with 3 and isle with 6; Rev is 9.
func smallMirror() impl.Mirror {
	return impl.Mirror{Rev: 9, Objs: copiedObjs(small().Objs)}
}

func mirrorWith(change func(m *impl.Mirror)) impl.Mirror {
	m := smallMirror()
	change(&m)
	return m
}

// rightMirrors are those of all right bases, and some with Uids that no base has.
func rightMirrors() map[string]impl.Mirror {
	out := map[string]impl.Mirror{
		"the zero mirror": {}, "empty lists": {Objs: []impl.Obj{}}, "the greatest Rev": {Rev: mostRev}, "a Rev": {Rev: 7},
		"MaxObjs":                   {Rev: mostObjs, Objs: crowd(mostObjs)},
		"a Rev of m.Rev":            mirrorWith(func(m *impl.Mirror) { m.Objs[0].Rev = 9 }),
		"all Revs alike":            mirrorWith(func(m *impl.Mirror) { m.Objs[0].Rev, m.Objs[1].Rev, m.Objs[2].Rev = 9, 9, 9 }),
		"a Gen of its Rev":          mirrorWith(func(m *impl.Mirror) { m.Objs[0].Gen = 3 }),
		"an object at MaxRev":       mirrorWith(func(m *impl.Mirror) { m.Rev, m.Objs[0].Rev, m.Objs[0].Gen = mostRev, mostRev, mostRev }),
		"Uids that fall":            mirrorWith(func(m *impl.Mirror) { m.Objs[0].Uid, m.Objs[2].Uid = 6, 2 }),
		"Uids far apart":            mirrorWith(func(m *impl.Mirror) { m.Objs[0].Uid, m.Objs[1].Uid, m.Objs[2].Uid = math.MaxInt, 1, math.MaxInt-1 }),
		"an Ends with a Wait":       mirrorWith(func(m *impl.Mirror) { m.Objs[1].Ends = true }),
		"Waits of one not removed":  mirrorWith(func(m *impl.Mirror) { m.Objs[0].Waits = strings.Fields("a b c d") }),
		"a name of the last length": mirrorWith(func(m *impl.Mirror) { m.Objs[1].Name = strings.Replace(longName, "n", "z", 1) }),
	}
	for why, b := range rightBases() {
		out["of a base: "+why] = impl.Mirror{Rev: b.Rev, Objs: b.Objs}
	}
	for _, n := range []int{1, 7, 8, 99, mostRev - 1, mostRev, mostRev + 1, 1 << 32, 1<<32 + 2, math.MaxInt - 1, math.MaxInt} {
		out["a Uid of "+strconv.Itoa(n)] = mirrorWith(func(m *impl.Mirror) { m.Objs[0].Uid = n })
	}
	return out
}

// isOfUid tells whether what spoils an object for a base does so by a Uid that a mirror takes.
func isOfUid(why string) bool {
	return strings.HasPrefix(why, "a Uid") && why != "a Uid of 0" && !strings.HasPrefix(why, "a Uid of -")
}

func wrongMirrors() map[string]impl.Mirror {
	out := map[string]impl.Mirror{
		"one more than MaxObjs":     {Rev: 99, Objs: crowd(mostObjs + 1)},
		"far more than MaxObjs":     {Rev: 1000, Objs: crowd(1000)},
		"an object, but no Rev":     {Objs: []impl.Obj{objOf(1, "a", 1, 1, "")}},
		"a Rev of m.Rev and one":    mirrorWith(func(m *impl.Mirror) { m.Objs[0].Rev = 10 }),
		"the last one's Rev above":  mirrorWith(func(m *impl.Mirror) { m.Objs[2].Rev = 10 }),
		"m.Rev below":               mirrorWith(func(m *impl.Mirror) { m.Rev = 7 }),
		"a Rev of 0":                mirrorWith(func(m *impl.Mirror) { m.Objs[0].Rev = 0 }),
		"a Rev below 0":             mirrorWith(func(m *impl.Mirror) { m.Objs[1].Rev = -1 }),
		"a Gen above its Rev":       mirrorWith(func(m *impl.Mirror) { m.Objs[0].Gen = 4 }),
		"Kinds out of order":        mirrorWith(func(m *impl.Mirror) { m.Objs[2].Kind, m.Objs[0].Kind = 1, 2 }),
		"names out of order":        mirrorWith(func(m *impl.Mirror) { m.Objs[0].Name, m.Objs[1].Name = "z", "web" }),
		"two of one Kind and name":  mirrorWith(func(m *impl.Mirror) { m.Objs[1].Name = "web" }),
		"two of one Uid":            mirrorWith(func(m *impl.Mirror) { m.Objs[1].Uid = 2 }),
		"two of one Uid, far apart": mirrorWith(func(m *impl.Mirror) { m.Objs[2].Uid = 2 }),
		"two of the greatest Uid":   mirrorWith(func(m *impl.Mirror) { m.Objs[0].Uid, m.Objs[2].Uid = math.MaxInt, math.MaxInt }),
		"an Ends without Waits":     mirrorWith(func(m *impl.Mirror) { m.Objs[0].Ends = true }),
		"no Waits any more":         mirrorWith(func(m *impl.Mirror) { m.Objs[2].Waits = nil }),
		"empty Waits":               mirrorWith(func(m *impl.Mirror) { m.Objs[2].Waits = []string{} }),
	}
	for _, n := range []int{-1, mostRev + 1, 1 << 32, 1<<32 + 9, math.MaxInt, math.MinInt} {
		out["a Rev of "+strconv.Itoa(n)] = mirrorWith(func(m *impl.Mirror) { m.Rev = n })
		out["nothing, and a Rev of "+strconv.Itoa(n)] = impl.Mirror{Rev: n}
	}
	for why, spoil := range spoilObj(9, 7) {
		if !isOfUid(why) {
			for i := range 3 {
				out["place "+strconv.Itoa(i)+": "+why] = mirrorWith(func(m *impl.Mirror) { spoil(&m.Objs[i]) })
			}
		}
	}
	values := wrongValues()
	for i, why := range slices.Sorted(maps.Keys(values)) {
		out["a Spec: "+why] = mirrorWith(func(m *impl.Mirror) { m.Objs[i%3].Spec = values[why] })
		out["a Status: "+why] = mirrorWith(func(m *impl.Mirror) { m.Objs[(i+1)%3].Status = values[why] })
	}
	return out
}

func TestMirrorOk(t *testing.T) {
	tellsApart(t, rightMirrors(), wrongMirrors(), isMirror, impl.MirrorOk)
	for n := mostObjs - 1; n <= mostObjs+2; n++ {
		if impl.MirrorOk(impl.Mirror{Rev: 99, Objs: crowd(n)}) != (n <= mostObjs) {
			t.Error(n, "objects")
		}
	}
}

func TestMirrorOkOfAllSmallNumbers(t *testing.T) {
	right := 0
	eachRow(4, -1, 3, func(n []int) {
		o := objOf(1, "a", n[1], n[2], "")
		o.Gen = n[3]
		for _, m := range []impl.Mirror{{Rev: n[0], Objs: []impl.Obj{o}}, {Rev: n[0], Objs: []impl.Obj{o, objOf(2, "a", 2, 1, "")}}} {
			if impl.MirrorOk(m) != isMirror(m) {
				t.Fatalf("%v: %v", m, impl.MirrorOk(m))
			}
			if isMirror(m) {
				right++
			}
		}
	})
	for n := range 7 {
		for _, ends := range []bool{false, true} {
			o := objOf(3, "a", 1, 1, strings.Join(ascendingNames(n), " "))
			o.Ends = ends
			if impl.MirrorOk(impl.Mirror{Rev: 1, Objs: []impl.Obj{o}}) != (n <= 4 && (n > 0 || !ends)) {
				t.Error(n, "Waits", ends)
			}
		}
	}
	if right < 40 {
		t.Error("too few were tried:", right)
	}
}

// putAt is a Change by which o is there at this Rev, goneAt one by which it is not any more.

func putAt(rev int, o impl.Obj) impl.Change {
	o.Rev = rev
	return changeOf(o, false)
}

func goneAt(rev, kind int, name string, uid int) impl.Change {
	return changeOf(objOf(kind, name, uid, rev, ""), true)
}

// at is c told at another Rev than its object has.
func at(rev int, c impl.Change) impl.Change {
	c.Rev = rev
	return c
}

const asSmall = "1 web u2 r3 g1, 1 z u3 r5 g1 hub net, 2 isle u6 r8 g1 hub ends"

func TestFollow(t *testing.T) {
	put := func(rev, kind int, name string, uid int) impl.Change {
		return putAt(rev, objOf(kind, name, uid, rev, ""))
	}
	type changes = []impl.Change
	ends := ending(objOf(1, "web", 2, 10, ""))
	m := smallMirror()
	for what, x := range map[string]struct {
		list changes
		want string // Nothing, where it can not be followed.
	}{
		"none": {nil, asSmall}, "an empty list": {changes{}, asSmall},
		"the Rev m.Rev": {changes{put(9, 1, "web", 2)}, ""}, "m.Rev and one": {changes{put(10, 1, "web", 2)}, "1 web u2 r10 g1, 1 z u3 r5 g1 hub net, 2 isle u6 r8 g1 hub ends"}, "m.Rev and two": {changes{put(11, 1, "web", 2)}, ""}, "a Rev of 0": {changes{put(0, 1, "web", 2)}, ""}, "a Rev far below 0": {changes{put(math.MinInt, 1, "web", 2)}, ""}, "a Rev far up": {changes{put(math.MaxInt, 1, "web", 2)}, ""}, "a Rev that wraps round": {changes{put(1<<32+10, 1, "web", 2)}, ""},
		// Its object may tell an older Rev, and no newer one.
		"an object of m.Rev": {changes{at(10, put(9, 1, "web", 2))}, "1 web u2 r9 g1, 1 z u3 r5 g1 hub net, 2 isle u6 r8 g1 hub ends"}, "an object of an old Rev": {changes{at(10, put(1, 1, "web", 2))}, "1 web u2 r1 g1, 1 z u3 r5 g1 hub net, 2 isle u6 r8 g1 hub ends"}, "an object of a newer Rev": {changes{at(10, put(11, 1, "web", 2))}, ""}, "an object of the right Rev, told late": {changes{at(11, put(10, 1, "web", 2))}, ""}, "an object of the right Rev, told early": {changes{at(9, put(10, 1, "web", 2))}, ""},
		"new, at first": {changes{put(10, 1, "a", 9)}, "1 a u9 r10 g1, " + asSmall}, "new, between": {changes{put(10, 1, "x", 9)}, "1 web u2 r3 g1, 1 x u9 r10 g1, 1 z u3 r5 g1 hub net, 2 isle u6 r8 g1 hub ends"}, "new, the last name of a Kind": {changes{put(10, 1, "zz", 1)}, "1 web u2 r3 g1, 1 z u3 r5 g1 hub net, 1 zz u1 r10 g1, 2 isle u6 r8 g1 hub ends"}, "new, at last": {changes{put(10, 3, "a", 1)}, asSmall + ", 3 a u1 r10 g1"}, "new, one name under another Kind": {changes{put(10, 2, "web", 7)}, "1 web u2 r3 g1, 1 z u3 r5 g1 hub net, 2 isle u6 r8 g1 hub ends, 2 web u7 r10 g1"},
		"another Uid in its place": {changes{put(10, 1, "web", 7)}, "1 web u7 r10 g1, 1 z u3 r5 g1 hub net, 2 isle u6 r8 g1 hub ends"}, "an older Uid in its place": {changes{put(10, 1, "z", 1)}, "1 web u2 r3 g1, 1 z u1 r10 g1, 2 isle u6 r8 g1 hub ends"}, "the greatest Uid": {changes{put(10, 1, "web", math.MaxInt)}, "1 web u9223372036854775807 r10 g1, 1 z u3 r5 g1 hub net, 2 isle u6 r8 g1 hub ends"},
		"what Ends no more": {changes{put(10, 2, "isle", 6)}, "1 web u2 r3 g1, 1 z u3 r5 g1 hub net, 2 isle u6 r10 g1"}, "what Ends now": {changes{putAt(10, ending(objOf(1, "web", 2, 10, "hub")))}, "1 web u2 r10 g1 hub ends, 1 z u3 r5 g1 hub net, 2 isle u6 r8 g1 hub ends"}, "what Ends without Waits": {changes{putAt(10, ends)}, ""}, "new, and Ends without Waits": {changes{putAt(10, ending(objOf(3, "a", 9, 10, "")))}, ""},
		"the Uid of another one": {changes{put(10, 1, "web", 3)}, ""}, "new, the Uid of another one": {changes{put(10, 3, "a", 2)}, ""}, "new, the last one's Uid": {changes{put(10, 1, "a", 6)}, ""}, "a Uid of 0": {changes{put(10, 1, "web", 0)}, ""}, "new, a Uid of 0": {changes{put(10, 3, "a", 0)}, ""}, "a Uid below 0": {changes{put(10, 3, "a", -1)}, ""},
		"gone": {changes{goneAt(10, 1, "web", 2)}, "1 z u3 r5 g1 hub net, 2 isle u6 r8 g1 hub ends"}, "gone, with Waits": {changes{goneAt(10, 1, "z", 3)}, "1 web u2 r3 g1, 2 isle u6 r8 g1 hub ends"}, "gone, the last": {changes{goneAt(10, 2, "isle", 6)}, "1 web u2 r3 g1, 1 z u3 r5 g1 hub net"}, "gone, and ended without Waits": {changes{changeOf(ends, true)}, "1 z u3 r5 g1 hub net, 2 isle u6 r8 g1 hub ends"},
		"gone, not there": {changes{goneAt(10, 1, "no", 2)}, ""}, "gone, not there, a new Uid": {changes{goneAt(10, 1, "no", 9)}, ""}, "gone, another Kind": {changes{goneAt(10, 2, "web", 2)}, ""}, "gone, another Uid": {changes{goneAt(10, 1, "web", 1)}, ""}, "gone, a newer Uid": {changes{goneAt(10, 1, "web", 7)}, ""}, "gone, another one's Uid": {changes{goneAt(10, 1, "web", 3)}, ""}, "gone, a Uid of 0": {changes{goneAt(10, 1, "web", 0)}, ""}, "gone, at m.Rev": {changes{goneAt(9, 1, "web", 2)}, ""}, "gone, at m.Rev and two": {changes{goneAt(11, 1, "web", 2)}, ""}, "the zero Change": {changes{{}}, ""}, "nothing that is gone": {changes{{Rev: 10, Gone: true}}, ""}, "nothing that is there": {changes{{Rev: 10}}, ""},
		// Of what is gone, the Kind, the name and the Uid are asked for alone.
		"gone, an old Rev": {changes{at(10, goneAt(1, 1, "web", 2))}, "1 z u3 r5 g1 hub net, 2 isle u6 r8 g1 hub ends"}, "gone, a newer Rev": {changes{at(10, goneAt(99, 1, "web", 2))}, "1 z u3 r5 g1 hub net, 2 isle u6 r8 g1 hub ends"}, "gone, and no more than named": {changes{{Rev: 10, Gone: true, Obj: impl.Obj{Kind: 1, Name: "web", Uid: 2}}}, "1 z u3 r5 g1 hub net, 2 isle u6 r8 g1 hub ends"}, "gone, with wrong Waits": {changes{{Rev: 10, Gone: true, Obj: impl.Obj{Kind: 1, Name: "web", Uid: 2, Gen: -1, Waits: []string{"", ""}}}}, "1 z u3 r5 g1 hub net, 2 isle u6 r8 g1 hub ends"},
		"many":                           {changes{put(10, 1, "web", 2), goneAt(11, 1, "z", 3), put(12, 3, "a", 7), goneAt(13, 2, "isle", 6), put(14, 1, "z", 8), goneAt(15, 3, "a", 7)}, "1 web u2 r10 g1, 1 z u8 r14 g1"},
		"all gone":                       {changes{goneAt(10, 2, "isle", 6), goneAt(11, 1, "web", 2), goneAt(12, 1, "z", 3)}, " "},
		"gone, and anew":                 {changes{goneAt(10, 1, "web", 2), put(11, 1, "web", 7)}, "1 web u7 r11 g1, 1 z u3 r5 g1 hub net, 2 isle u6 r8 g1 hub ends"},
		"gone, and its Uid anew":         {changes{goneAt(10, 1, "web", 2), put(11, 3, "a", 2)}, "1 z u3 r5 g1 hub net, 2 isle u6 r8 g1 hub ends, 3 a u2 r11 g1"},
		"its Uid first, gone behind":     {changes{put(10, 3, "a", 2), goneAt(11, 1, "web", 2)}, ""},
		"another Uid, and the old one":   {changes{put(10, 1, "web", 7), put(11, 3, "a", 2)}, "1 web u7 r10 g1, 1 z u3 r5 g1 hub net, 2 isle u6 r8 g1 hub ends, 3 a u2 r11 g1"},
		"another Uid, gone with the old": {changes{put(10, 1, "web", 7), goneAt(11, 1, "web", 2)}, ""},
		"new, and gone":                  {changes{put(10, 3, "a", 7), goneAt(11, 3, "a", 7)}, asSmall},
		"gone twice":                     {changes{goneAt(10, 1, "web", 2), goneAt(11, 1, "web", 2)}, ""},
		"one left out":                   {changes{put(10, 1, "web", 2), put(12, 3, "a", 7)}, ""},
		"one twice":                      {changes{put(10, 1, "web", 2), put(10, 1, "web", 2), put(11, 3, "a", 7)}, ""},
		"two in the wrong order":         {changes{put(11, 3, "a", 7), put(10, 1, "web", 2)}, ""},
		"two in the wrong order, later":  {changes{put(10, 1, "web", 2), put(12, 3, "a", 7), put(11, 3, "b", 8)}, ""},
		"one of before":                  {changes{put(9, 1, "web", 2), put(10, 1, "web", 2)}, ""},
		"a wrong one at last":            {changes{put(10, 1, "web", 2), goneAt(11, 1, "z", 3), put(12, 3, "a", 7), goneAt(13, 1, "z", 3)}, ""},
		"a wrong one that is mended":     {changes{put(10, 1, "web", 3), put(11, 1, "web", 2)}, ""},
		"a wrong one that goes again":    {changes{put(10, 3, "", 7), goneAt(11, 3, "", 7)}, ""},
	} {
		rev := m.Rev + len(x.list)
		got, ok := followsRight(t, m, x.list)
		if ok != (x.want != "") || ok && (got.Rev != rev || textOfObjs(got.Objs) != strings.TrimSpace(x.want)) {
			t.Errorf("%s: %v %d %q", what, ok, got.Rev, textOfObjs(got.Objs))
		}
	}
}

// What a Change tells is all there then, the Spec, the Status and the Waits too.
func TestFollowTakesTheWholeObject(t *testing.T) {
	o := impl.Obj{Kind: 1, Name: "web", Uid: 2, Rev: 10, Gen: 7, Ends: true, Waits: []string{"a", "b"}, Spec: valueIn("[1]"), Status: valueIn(`{x:"y"}`)}
	for _, list := range [][]impl.Change{{changeOf(o, false)}, {goneAt(10, 1, "web", 2), at(11, changeOf(o, false))}} {
		got, ok := followsRight(t, smallMirror(), list)
		if !ok || !sameObjs(got.Objs[:1], []impl.Obj{o}) || !sameObjs(got.Objs[1:], small().Objs[1:]) {
			t.Errorf("%v %v", ok, got)
		}
	}
	o.Kind, o.Uid = 3, 7
	if got, ok := followsRight(t, smallMirror(), []impl.Change{changeOf(o, false)}); !ok || !sameObjs(got.Objs, append(small().Objs, o)) {
		t.Errorf("%v %v", ok, got)
	}
}

// A Change that tells of an object that is not right is not followed, be its place there or not.
func TestFollowOfWrongObjects(t *testing.T) {
	for why, spoil := range spoilObj(10, 8) {
		for _, o := range []impl.Obj{objOf(1, "web", 2, 10, ""), objOf(2, "isle", 6, 10, "hub"), objOf(3, "a", 7, 10, "")} {
			spoil(&o)
			if _, ok := followsRight(t, smallMirror(), []impl.Change{at(10, changeOf(o, false))}); ok != isOfUid(why) {
				t.Errorf("%s: %v", why, ok)
			}
			if _, ok := followsRight(t, smallMirror(), []impl.Change{at(10, changeOf(o, false)), at(11, changeOf(o, true))}); ok != isOfUid(why) {
				t.Errorf("%s, and gone: %v", why, ok)
			}
		}
	}
	for why, v := range wrongValues() {
		for _, name := range []string{"web", "new"} {
			spec, status := objOf(1, name, 2, 10, ""), objOf(1, name, 2, 10, "")
			spec.Spec, status.Status = v, v
			for _, o := range []impl.Obj{spec, status} {
				if _, ok := impl.Follow(smallMirror(), []impl.Change{changeOf(o, false)}); ok {
					t.Errorf("%.60s: %s", why, name)
				}
			}
			if got, ok := impl.Follow(smallMirror(), []impl.Change{changeOf(spec, true)}); ok != (name == "web") || ok && len(got.Objs) != 2 {
				t.Errorf("%.60s: %s is gone: %v", why, name, ok)
			}
		}
	}
	for _, x := range rightValues() {
		spec, status := objOf(1, "web", 2, 10, ""), objOf(3, "a", 7, 11, "")
		spec.Spec, status.Status = x.v, x.v
		if got, ok := followsRight(t, smallMirror(), []impl.Change{changeOf(spec, false), changeOf(status, false)}); !ok || !alike(got.Objs[0].Spec, x.v) || !alike(got.Objs[3].Status, x.v) {
			t.Errorf("%.60s", x.s)
		}
	}
}

func TestFollowOfWrongMirrors(t *testing.T) {
	for why, m := range wrongMirrors() {
		for _, list := range [][]impl.Change{nil, {putAt(m.Rev+1, objOf(1, "web", 2, 1, ""))}, {goneAt(m.Rev+1, 1, "web", 2)}, {goneAt(10, 1, "z", 3)}} {
			if got, ok := impl.Follow(m, list); ok || !sameMirrors(got, m) {
				t.Errorf("%.60s: %v", why, ok)
			}
		}
	}
	for why, m := range rightMirrors() {
		for _, list := range [][]impl.Change{nil, {putAt(m.Rev+1, objOf(1, "new", math.MaxInt-7, 1, ""))}, {goneAt(m.Rev+1, 1, "web", 2)}, {goneAt(m.Rev+1, 1, "k000", 1), putAt(m.Rev+2, objOf(1, "k000", math.MaxInt-7, 1, ""))}} {
			if _, ok := followsRight(t, m, list); !ok && len(list) == 0 {
				t.Errorf("%.60s: none is not followed", why)
			}
		}
	}
}

// At the greatest number of objects, and at the greatest Rev.
func TestFollowAtTheLimits(t *testing.T) {
	for n := mostObjs - 2; n <= mostObjs; n++ {
		m := impl.Mirror{Rev: 100, Objs: crowd(n)}
		one, two := putAt(101, objOf(2, "new", 900, 1, "")), putAt(102, objOf(1, "new", 901, 1, ""))
		for what, x := range map[string]struct {
			list []impl.Change
			ok   bool
		}{
			"none": {nil, true}, "one more": {[]impl.Change{one}, n < mostObjs}, "two more": {[]impl.Change{one, two}, n < mostObjs-1},
			"one in its place":      {[]impl.Change{putAt(101, objOf(1, "k000", 1, 1, ""))}, true},
			"another in its place":  {[]impl.Change{putAt(101, objOf(1, "k010", 900, 1, ""))}, true},
			"one more, and gone":    {[]impl.Change{one, goneAt(102, 1, "k000", 1)}, n < mostObjs},
			"one gone, one more":    {[]impl.Change{goneAt(101, 1, "k000", 1), two}, true},
			"itself more, and gone": {[]impl.Change{one, goneAt(102, 2, "new", 900)}, n < mostObjs},
		} {
			if _, ok := followsRight(t, m, x.list); ok != x.ok {
				t.Errorf("%d objects, %s: %v", n, what, ok)
			}
		}
	}
	for rev := mostRev - 3; rev <= mostRev; rev++ {
		list := []impl.Change{putAt(rev+1, objOf(1, "web", 2, 1, "")), goneAt(rev+2, 1, "web", 2), putAt(rev+3, objOf(1, "web", 7, 1, ""))}
		for n := range len(list) + 1 {
			m := smallMirror()
			m.Rev = rev
			if got, ok := followsRight(t, m, list[:n]); ok != (rev+n <= mostRev) || ok && got.Rev != rev+n {
				t.Errorf("%d and %d: %v", rev, n, ok)
			}
		}
	}
	from0, all := impl.Mirror{}, []impl.Change{}
	for n := range 500 {
		all = append(all, putAt(n+1, objOf(1+n%3, ascendingNames(20)[n%20], 1+n%60, 1, "")))
	}
	if got, ok := followsRight(t, from0, all); !ok || got.Rev != 500 || len(got.Objs) != 60 {
		t.Error(ok, got.Rev, len(got.Objs))
	}
}

func TestList(t *testing.T) {
	for why, b := range rightBases() {
		if got := impl.List(b); !sameMirrors(got, impl.Mirror{Rev: b.Rev, Objs: b.Objs}) || !impl.MirrorOk(got) {
			t.Errorf("%.60s: %d %s", why, got.Rev, textOfObjs(got.Objs))
		}
	}
	for why, b := range wrongBases() {
		if got := impl.List(b); !sameMirrors(got, impl.Mirror{}) {
			t.Errorf("%.60s: %d %s", why, got.Rev, textOfObjs(got.Objs))
		}
	}
	if got := impl.List(small()); got.Rev != 9 || textOfObjs(got.Objs) != asSmall {
		t.Error(got.Rev, textOfObjs(got.Objs))
	}
}

// run has each of these calls done, one behind the other, and tells what there was ahead of the first and behind each.
func run(t *testing.T, b impl.Base, calls ...call) []impl.Base {
	t.Helper()
	out := []impl.Base{b}
	for _, c := range calls {
		next, code := goesRight(t, b, c)
		if code != impl.StGood {
			t.Fatalf("%v: %d", c, code)
		}
		b = next
		out = append(out, b)
	}
	return out
}

func TestCatchUp(t *testing.T) {
	one, two := numOf(1), numOf(2)
	bases := run(t, impl.BaseNew(), create(1, "a", one, ""), create(2, "b", one, "hub"), update(1, "a", 1, two), remove(1, "a"), create(1, "a", one, ""), status(1, "a", 5, two), remove(2, "b"), finish(2, "b", "hub"), create(2, "b", one, ""))
	last := bases[len(bases)-1]
	if last.Rev != 9 || textOfObjs(last.Objs) != "1 a u3 r6 g1, 2 b u4 r9 g1" {
		t.Fatal(textOfObjs(last.Objs))
	}
	for i, old := range bases {
		// By the Changes, also of what was removed and created anew between; one that is ahead gets the list.
		for j, b := range bases {
			got, by := catchesUpRight(t, impl.List(old), b)
			if by != (i <= j) || !sameMirrors(got, impl.List(b)) {
				t.Errorf("from %d to %d: %v %s", i, j, by, textOfObjs(got.Objs))
			}
		}
		// By the list, where Log does not go back so far, or has a gap.
		for n := range last.Log {
			short, gap := copiedBase(last), copiedBase(last)
			short.Log = short.Log[n:]
			gap.Log = slices.Delete(gap.Log, n, n+1)
			for what, b := range map[string]impl.Base{"from": short, "without": gap} {
				by := i >= n
				if what == "without" {
					by = i > n
				}
				if got, ok := catchesUpRight(t, impl.List(old), b); ok != by || !sameMirrors(got, impl.List(last)) {
					t.Errorf("%d, Log %s %d: %v %s", i, what, n, ok, textOfObjs(got.Objs))
				}
			}
		}
	}
}

// Where Since goes, but Follow does not, the list is taken.
func TestCatchUpOfOtherMirrors(t *testing.T) {
	one := numOf(1)
	bases := run(t, impl.BaseNew(), create(1, "a", one, ""), create(2, "b", one, ""), remove(1, "a"), update(2, "b", 2, numOf(2)), create(1, "a", one, ""))
	b := bases[5]
	for what, x := range map[string]struct {
		m    impl.Mirror
		by   bool
		want string
	}{
		"nothing":                        {impl.Mirror{}, true, "1 a u3 r5 g1, 2 b u2 r4 g2"},
		"nothing, but up to 2":           {impl.Mirror{Rev: 2}, false, "1 a u3 r5 g1, 2 b u2 r4 g2"},
		"nothing, but up to 3":           {impl.Mirror{Rev: 3}, true, "1 a u3 r5 g1, 2 b u2 r4 g2"},
		"another Uid for what is gone":   {impl.Mirror{Rev: 2, Objs: []impl.Obj{objOf(1, "a", 9, 1, "")}}, false, "1 a u3 r5 g1, 2 b u2 r4 g2"},
		"a Uid that comes later":         {impl.Mirror{Rev: 3, Objs: []impl.Obj{objOf(3, "c", 3, 1, "")}}, false, "1 a u3 r5 g1, 2 b u2 r4 g2"},
		"one that the base never had":    {impl.Mirror{Rev: 3, Objs: []impl.Obj{objOf(3, "c", 9, 1, "")}}, true, "1 a u3 r5 g1, 2 b u2 r4 g2, 3 c u9 r1 g1"},
		"up to date, but with others":    {impl.Mirror{Rev: 5, Objs: []impl.Obj{objOf(3, "c", 9, 1, "")}}, true, "3 c u9 r1 g1"},
		"up to date, without what is":    {impl.Mirror{Rev: 5}, true, ""},
		"ahead by one":                   {impl.Mirror{Rev: 6}, false, "1 a u3 r5 g1, 2 b u2 r4 g2"},
		"far ahead":                      {impl.Mirror{Rev: mostRev}, false, "1 a u3 r5 g1, 2 b u2 r4 g2"},
		"below 0":                        {impl.Mirror{Rev: -1}, false, "1 a u3 r5 g1, 2 b u2 r4 g2"},
		"above MaxRev":                   {impl.Mirror{Rev: mostRev + 1}, false, "1 a u3 r5 g1, 2 b u2 r4 g2"},
		"at the last number":             {impl.Mirror{Rev: math.MaxInt}, false, "1 a u3 r5 g1, 2 b u2 r4 g2"},
		"at the first number":            {impl.Mirror{Rev: math.MinInt}, false, "1 a u3 r5 g1, 2 b u2 r4 g2"},
		"not MirrorOk, up to date":       {impl.Mirror{Rev: 5, Objs: []impl.Obj{objOf(1, "a", 0, 1, "")}}, false, "1 a u3 r5 g1, 2 b u2 r4 g2"},
		"not MirrorOk, a Rev too great":  {impl.Mirror{Rev: 4, Objs: []impl.Obj{objOf(3, "a", 9, 5, "")}}, false, "1 a u3 r5 g1, 2 b u2 r4 g2"},
		"MaxObjs already, and one comes": {impl.Mirror{Rev: 4, Objs: crowd(mostObjs)}, false, "1 a u3 r5 g1, 2 b u2 r4 g2"},
	} {
		got, by := catchesUpRight(t, x.m, b)
		if by != x.by || got.Rev != 5 || textOfObjs(got.Objs) != x.want {
			t.Errorf("%s: %v %d %q", what, by, got.Rev, textOfObjs(got.Objs))
		}
	}
	full := impl.Mirror{Rev: 4}
	for i, name := range ascendingNames(mostObjs) {
		full.Objs = append(full.Objs, objOf(1, name, 100+i, 1, ""))
	}
	if _, by := catchesUpRight(t, full, b); by {
		t.Error("more than MaxObjs")
	}
	full.Objs = full.Objs[1:]
	if got, by := catchesUpRight(t, full, b); !by || len(got.Objs) != mostObjs {
		t.Error("not up to MaxObjs", by)
	}
}

func TestCatchUpOfBases(t *testing.T) {
	mirrors := []impl.Mirror{{}, {Rev: 5}, smallMirror(), mirrorWith(func(m *impl.Mirror) { m.Rev, m.Objs = 8, m.Objs[:2] }), mirrorWith(func(m *impl.Mirror) { m.Objs[0].Uid = 0 }), {Rev: mostRev}, {Rev: -1}}
	for why, b := range wrongBases() {
		for i, m := range append(mirrors, impl.Mirror{Rev: b.Rev}) {
			if got, by := impl.CatchUp(m, b); by || !sameMirrors(got, impl.Mirror{}) {
				t.Errorf("%.60s, %d: %v %s", why, i, by, textOfObjs(got.Objs))
			}
		}
	}
	for _, b := range rightBases() {
		for _, m := range append(mirrors, impl.List(b), impl.Mirror{Rev: b.Rev}, impl.Mirror{Rev: b.Rev - 1, Objs: b.Objs}) {
			catchesUpRight(t, m, b)
		}
	}
	for why, m := range wrongMirrors() {
		for _, b := range []impl.Base{small(), impl.BaseNew(), {Rev: m.Rev, Next: 1}} {
			if got, by := impl.CatchUp(m, b); by || !sameMirrors(got, listByWords(b)) {
				t.Errorf("%.60s: %v", why, by)
			}
		}
	}
}

// spoiled are lists that a change of list makes: one left out (but the last), one twice, two in the wrong order, one of before.
func spoiled(list []impl.Change) [][]impl.Change {
	out := [][]impl.Change{}
	for i := range list {
		if i < len(list)-1 {
			out = append(out, slices.Delete(slices.Clone(list), i, i+1))
			swapped := slices.Clone(list)
			swapped[i], swapped[i+1] = swapped[i+1], swapped[i]
			out = append(out, swapped)
		}
		out = append(out, slices.Insert(slices.Clone(list), i, list[i]), append(slices.Clone(list), list[i]))
	}
	return out
}

// Whatever was done to a base, who had it at any time catches up, by the Changes where all are there; and of the Changes none can be left out, come twice or out of order.
func TestWhoCatchesUpHasWhatIsListed(t *testing.T) {
	rnd := rand.New(rand.NewSource(8))
	ways := map[bool]int{}
	for range 8 {
		b, known := impl.BaseNew(), map[int]impl.Mirror{0: {}}
		for range 240 {
			b, _ = anyCall(rnd, b).at(b)
			known[b.Rev] = impl.List(b)
		}
		last := impl.List(b)
		for rev := range b.Rev + 1 {
			got, by := impl.CatchUp(known[rev], b)
			if by != (b.Rev-rev <= mostLog) || !sameMirrors(got, last) {
				t.Fatalf("from %d to %d: %v %s, not %s", rev, b.Rev, by, textOfObjs(got.Objs), textOfObjs(last.Objs))
			}
			ways[by]++
			l, ok := impl.Since(b, rev)
			if ok != by {
				t.Fatalf("since %d of %d: %v", rev, b.Rev, ok)
			}
			for n := range l {
				if got, ok := impl.Follow(known[rev], l[:n]); !ok || !sameMirrors(got, known[rev+n]) {
					t.Fatalf("%d, and %d Changes: %v", rev, n, ok)
				}
				if got, ok := impl.Follow(known[rev], l[n:]); ok != (n == 0) || !ok && !sameMirrors(got, known[rev]) {
					t.Fatalf("%d, without %d Changes: %v", rev, n, ok)
				}
			}
			if len(l) <= 12 {
				for _, wrong := range spoiled(l) {
					if got, ok := impl.Follow(known[rev], wrong); ok || !sameMirrors(got, known[rev]) {
						t.Fatalf("%d, behind %s: %v", rev, textOfLog(wrong), ok)
					}
				}
			}
		}
	}
	if ways[true] < 300 || ways[false] < 300 {
		t.Error("too few were tried:", ways)
	}
}

// Of all short runs of Changes, right ones and wrong ones, those are followed that the words say.
func TestFollowOfAllShortLists(t *testing.T) {
	some := []impl.Change{}
	for rev := 4; rev <= 6; rev++ {
		for _, c := range []impl.Change{goneAt(rev, 1, "a", 1), goneAt(rev, 1, "b", 2), putAt(rev, objOf(1, "a", 1, 1, "")), putAt(rev, objOf(1, "a", 2, 1, "")), putAt(rev, objOf(1, "b", 2, 1, "")), putAt(rev, objOf(1, "b", 3, 1, "")), putAt(rev, objOf(2, "a", 3, 1, "hub"))} {
			some = append(some, c)
		}
	}
	tried, followed := 0, 0
	for _, m := range []impl.Mirror{{Rev: 3}, {Rev: 3, Objs: []impl.Obj{objOf(1, "a", 1, 1, "")}}, {Rev: 3, Objs: []impl.Obj{objOf(1, "a", 1, 1, ""), objOf(1, "b", 2, 2, "")}}, {Rev: 4, Objs: []impl.Obj{objOf(1, "a", 2, 1, ""), objOf(1, "b", 1, 2, "")}}} {
		eachRow(3, -1, len(some)-1, func(n []int) {
			list := []impl.Change{}
			for _, i := range n {
				if i >= 0 {
					list = append(list, some[i])
				}
			}
			tried++
			if _, ok := followsRight(t, m, list); ok {
				followed++
			}
		})
	}
	if followed < 200 || tried-followed < 10000 {
		t.Error("too few were tried:", followed, "of", tried)
	}
}

// anyChange is mostly what follows in m, and now and then is not.
func anyChange(rnd *rand.Rand, m impl.Mirror) impl.Change {
	o := objOf(1+rnd.Intn(3), []string{"a", "a-b", "a0", "b", "c", "web", "z", longName}[rnd.Intn(8)], 1+rnd.Intn(2000), m.Rev+1, "")
	if len(m.Objs) > 0 && rnd.Intn(3) > 0 {
		o = m.Objs[rnd.Intn(len(m.Objs))]
	}
	c := impl.Change{Rev: m.Rev + 1, Gone: rnd.Intn(3) == 0, Obj: o}
	c.Obj.Rev = c.Rev
	c.Obj.Spec, c.Obj.Status = anyValue(rnd, 1+rnd.Intn(5)), anyValue(rnd, 1+rnd.Intn(3))
	switch rnd.Intn(25) {
	case 0:
		c.Rev += rnd.Intn(4) - 2
	case 1:
		c.Obj.Uid = rnd.Intn(12) - 1
	case 2:
		c.Obj.Rev += rnd.Intn(4) - 2
	case 3:
		c.Obj.Gen = rnd.Intn(40)
	case 4:
		c.Obj.Ends, c.Obj.Waits = true, strings.Fields("hub net")[:rnd.Intn(3)]
	case 5:
		c.Obj.Kind = wrongKinds[rnd.Intn(len(wrongKinds))]
	case 6:
		c.Obj.Name = wrongNames[rnd.Intn(len(wrongNames))]
	}
	return c
}

func TestFollowOfManyChanges(t *testing.T) {
	rnd := rand.New(rand.NewSource(88))
	went := map[bool]int{}
	for range 40 {
		start, m, list := impl.Mirror{}, impl.Mirror{}, []impl.Change{}
		for range 60 {
			c := anyChange(rnd, m)
			next, ok := followsRight(t, m, []impl.Change{c})
			if went[ok]++; ok {
				m, list = next, append(list, c)
			}
		}
		if got, ok := followsRight(t, start, list); !ok || !sameMirrors(got, m) {
			t.Fatalf("one by one and at once are not the same: %v", ok)
		}
	}
	if went[true] < 1000 || went[false] < 200 {
		t.Error("too few were tried:", went)
	}
}

// Where the lists of these begin.

func mirrorHeads(m impl.Mirror) []any { return baseHeads(impl.Base{Objs: m.Objs}) }

func logHeads(list []impl.Change) []any { return baseHeads(impl.Base{Log: list}) }

// What these answer shares nothing with their arguments, and no two lists of it are one.
func TestMirrorsAreNewMemory(t *testing.T) {
	shared := sharing()
	roomySmall := roomyBase(small())
	next := []impl.Change{at(shared.Rev+1, changeOf(shared.Objs[1], false)), at(shared.Rev+2, changeOf(shared.Objs[2], false))}
	next[0].Obj.Uid, next[0].Obj.Kind = 7, 3
	next = roomyBase(impl.Base{Log: next}).Log
	next[1].Obj.Spec = next[0].Obj.Spec
	late := append(slices.Clone(next), at(1, next[0]))
	broken := sharing()
	broken.Objs[1].Uid = 0
	for i, x := range []struct {
		b    impl.Base
		m    impl.Mirror
		list []impl.Change
	}{
		{shared, impl.Mirror{Rev: 9, Objs: shared.Objs}, next}, {shared, impl.Mirror{Rev: 9, Objs: shared.Objs}, late}, {roomySmall, impl.Mirror{Rev: 9, Objs: roomySmall.Objs}, next}, {roomySmall, impl.Mirror{Rev: 9, Objs: roomySmall.Objs}, nil}, {roomySmall, impl.Mirror{Rev: 9, Objs: shared.Objs}, late}, {roomyBase(filled()), impl.Mirror{Rev: 1, Objs: broken.Objs}, next}, {broken, impl.Mirror{Rev: 9, Objs: broken.Objs}, next},
		{impl.Base{Rev: 9, Next: 9, Log: sharing().Log}, impl.Mirror{Rev: 8, Objs: shared.Objs[:2]}, late[:1]},
	} {
		keptB, keptM, keptList := copiedBase(x.b), copiedMirror(x.m), copiedLog(x.list)
		given := map[any]bool{}
		for _, h := range slices.Concat(baseHeads(x.b), mirrorHeads(x.m), logHeads(x.list)) {
			given[h] = true
		}
		for what, ask := range map[string]func() (impl.Base, bool){
			"Since":   func() (impl.Base, bool) { l, ok := impl.Since(x.b, x.b.Rev-1); return impl.Base{Log: l}, ok },
			"Since 3": func() (impl.Base, bool) { l, ok := impl.Since(x.b, 3); return impl.Base{Log: l}, ok },
			"Follow": func() (impl.Base, bool) {
				m, ok := impl.Follow(x.m, x.list)
				return impl.Base{Rev: m.Rev, Objs: m.Objs}, ok
			},
			"List": func() (impl.Base, bool) { m := impl.List(x.b); return impl.Base{Rev: m.Rev, Objs: m.Objs}, true },
			"CatchUp": func() (impl.Base, bool) {
				m, ok := impl.CatchUp(x.m, x.b)
				return impl.Base{Rev: m.Rev, Objs: m.Objs}, ok
			},
			"CatchUp by Changes": func() (impl.Base, bool) {
				behind := x.b
				behind.Rev, behind.Objs, behind.Log = x.m.Rev+len(x.list), nil, x.list
				m, ok := impl.CatchUp(x.m, behind)
				return impl.Base{Rev: m.Rev, Objs: m.Objs}, ok
			},
		} {
			got, ok := ask()
			for _, h := range baseHeads(got) {
				if given[h] {
					t.Fatalf("%d: %s, %v: an argument is shared", i, what, ok)
				}
			}
			if !apart(baseHeads(got)) {
				t.Fatalf("%d: %s, %v: two lists of the answer are one", i, what, ok)
			}
			kept := copiedBase(got)
			overwrittenBase(got)
			if !sameBases(x.b, keptB) || !sameMirrors(x.m, keptM) || !sameLogs(x.list, keptList) {
				t.Fatalf("%d: %s, %v: an argument changed with the answer", i, what, ok)
			}
			if again, _ := ask(); !sameBases(again, kept) {
				t.Fatalf("%d: %s, %v: an answer was kept", i, what, ok)
			}
		}
	}
}

// What lies behind a list's length is neither read nor written.
func TestBehindTheLengthOfMirrors(t *testing.T) {
	wrong := with(func(b *impl.Base) { b.Objs[1].Waits = []string{"b", "a"} })
	lists := [][]impl.Change{nil, {}, {putAt(10, objOf(3, "zz", 9, 1, ""))}, {goneAt(10, 1, "web", 2), putAt(11, objOf(1, "x", 6, 1, ""))}, {goneAt(10, 1, "web", 2), goneAt(11, 2, "isle", 6), putAt(12, objOf(1, "a", 6, 1, "hub"))}, {goneAt(10, 3, "zz", 6)}, logOf(mostLog, 10)}
	for _, b := range []impl.Base{small(), filled(), impl.BaseNew(), wrong, {Objs: crowd(mostObjs - 1), Rev: 70, Next: 70, Log: logOf(7, 64)}, {Rev: 50, Next: 7, Log: logOf(mostLog, 11)}} {
		for _, list := range lists {
			short, shortList := roomyBase(b), roomyBase(impl.Base{Log: list})
			m, shortM := impl.Mirror{Rev: 9, Objs: b.Objs}, impl.Mirror{Rev: 9, Objs: short.Objs}
			want, wantOk := impl.Follow(m, list)
			got, ok := impl.Follow(shortM, shortList.Log)
			wantUp, wantBy := impl.CatchUp(m, b)
			up, by := impl.CatchUp(shortM, short)
			if ok != wantOk || !sameMirrors(got, want) || by != wantBy || !sameMirrors(up, wantUp) || !untouchedBase(short) || !untouchedBase(shortList) {
				t.Fatalf("%.300v behind %s: %v, not %v, %v, not %v", b, textOfLog(list), ok, wantOk, by, wantBy)
			}
		}
		for _, rev := range revsAround(b.Rev) {
			short := roomyBase(b)
			want, wantOk := impl.Since(b, rev)
			got, ok := impl.Since(short, rev)
			if ok != wantOk || !sameLogs(got, want) || !untouchedBase(short) {
				t.Fatalf("since %d of %.300v: %v", rev, b, ok)
			}
			if !sameMirrors(impl.List(short), impl.List(b)) || impl.MirrorOk(impl.Mirror{Rev: rev, Objs: short.Objs}) != impl.MirrorOk(impl.Mirror{Rev: rev, Objs: b.Objs}) || !untouchedBase(short) {
				t.Fatalf("%.300v: what lies behind was read", b)
			}
		}
	}
}

// Whatever the values are, a mirror that is refused comes back, and every call ends.
func TestMirrorsOfValuesWithoutEnd(t *testing.T) {
	one := numOf(1)
	for what, v := range map[string]impl.Value{"a ring of one": ring(1, one), "a ring of five": ring(5, one), "rings in rings": ring(3, ring(2, ring(1, one))), "doubled": doubled(70, one), "deep": nested(one, 100000, false), "many": listOf(many(100000, one)...)} {
		m := mirrorWith(func(m *impl.Mirror) { m.Objs[0].Spec, m.Objs[1].Status = v, v })
		b := with(func(b *impl.Base) { b.Log[4].Obj.Status = v })
		if l, ok := impl.Since(b, 8); impl.MirrorOk(m) || ok || len(l) > 0 || !sameMirrors(impl.List(b), impl.Mirror{}) {
			t.Error(what, "is taken")
		}
		for _, list := range [][]impl.Change{nil, {goneAt(10, 1, "web", 2)}} {
			if got, ok := impl.Follow(m, list); ok || got.Rev != 9 || len(got.Objs) != 3 || !impl.SameValue(got.Objs[0].Spec, v) || !impl.SameValue(got.Objs[1].Status, v) {
				t.Error(what, "does not come back")
			}
		}
		if got, by := impl.CatchUp(m, small()); by || !sameMirrors(got, smallMirror()) {
			t.Error(what, "catches up")
		}
		o := objOf(1, "web", 2, 10, "")
		o.Status = v
		if got, ok := impl.Follow(smallMirror(), []impl.Change{changeOf(o, false)}); ok || !sameMirrors(got, smallMirror()) {
			t.Error(what, "is followed")
		}
		if got, ok := impl.Follow(smallMirror(), []impl.Change{changeOf(o, true)}); !ok || len(got.Objs) != 2 {
			t.Error(what, "does not go")
		}
	}
}
