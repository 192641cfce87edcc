package tests

import (
	"math/rand"
	"reflect"
	"slices"
	"strconv"
	"strings"
	"testing"

	"loop.example/g00119/impl"
)

// Promise 10: no island gets more than it has room for, no want more than its copies.

const (
	mostIslands = 12
	mostSpots   = 4
	mostBears   = 8
	mostWants   = 40
)

func numberIn(s string) int {
	n, _ := strconv.Atoi(strings.TrimSpace(s))
	return n
}

// islandIn reads an island: its name, a colon, its labels, its spots and its room, with semicolons between.
func islandIn(s string) impl.Island {
	name, lists, _ := strings.Cut(s, ":")
	parts := strings.Split(lists, ";")
	return impl.Island{Name: name, Labels: labels(strings.Fields(parts[0])...), Spots: strings.Fields(parts[1]), Room: numberIn(parts[2])}
}

// wantIn reads a want: its copies, a colon, its selector, what it bears and its weights, with semicolons between; a weight is a name, * and a number.
func wantIn(s string) impl.Want {
	copies, lists, _ := strings.Cut(s, ":")
	parts := strings.Split(lists, ";")
	sel, _ := selectorOfText(strings.TrimSpace(parts[0]))
	w := impl.Want{Copies: numberIn(copies), Select: sel, Bears: strings.Fields(parts[1])}
	for _, x := range strings.Fields(parts[2]) {
		name, n, _ := strings.Cut(x, "*")
		w.Weighs = append(w.Weighs, impl.Weigh{Name: name, N: numberIn(n)})
	}
	return w
}

// allIn reads each of what has bars between; of nothing it reads none.
func allIn[T any](s string, one func(s string) T) []T {
	out := []T{}
	for _, part := range strings.Split(s, "|") {
		if part = strings.TrimSpace(part); part != "" {
			out = append(out, one(part))
		}
	}
	return out
}

func islandsIn(s string) []impl.Island { return allIn(s, islandIn) }

func wantsIn(s string) []impl.Want { return allIn(s, wantIn) }

// The document's words once more.

func areLabels(l []impl.Label) bool {
	keys := []string{}
	for _, x := range l {
		if !isName.MatchString(x.Value) {
			return false
		}
		keys = append(keys, x.Key)
	}
	return len(l) <= 8 && isRow(keys)
}

func isSelector(sel []impl.Term) bool {
	for _, x := range sel {
		n := len(x.Values)
		right := map[int]bool{1: n == 1, 2: n == 1, 3: 1 <= n && n <= 6, 4: n == 0, 5: n == 0}
		if !right[x.Kind] || !isName.MatchString(x.Key) || !isRow(x.Values) {
			return false
		}
	}
	return len(sel) <= 8
}

func isIsland(i impl.Island) bool {
	return isName.MatchString(i.Name) && areLabels(i.Labels) && len(i.Spots) <= 4 && isRow(i.Spots) && 0 <= i.Room && i.Room <= 10000
}

func areIslands(list []impl.Island) bool {
	for _, i := range list {
		if !isIsland(i) {
			return false
		}
	}
	return len(list) <= 12
}

func isWant(w impl.Want) bool {
	names := []string{}
	for _, x := range w.Weighs {
		if x.N < 0 || x.N > 1000 {
			return false
		}
		names = append(names, x.Name)
	}
	return 0 <= w.Copies && w.Copies <= 10000 && isSelector(w.Select) && len(w.Bears) <= 8 && isRow(w.Bears) && len(names) <= 12 && isRow(names)
}

func eligibleByWords(w impl.Want, i impl.Island) bool {
	if !isWant(w) || !isIsland(i) {
		return false
	}
	for _, x := range w.Select {
		if !holdsByItsWords(x, i.Labels) {
			return false
		}
	}
	borne := map[string]bool{}
	for _, name := range w.Bears {
		borne[name] = true
	}
	for _, name := range i.Spots {
		if !borne[name] {
			return false
		}
	}
	return true
}

func weightByWords(w impl.Want, name string) int {
	n := 1
	for _, x := range slices.Backward(w.Weighs) {
		if x.Name == name {
			n = x.N
		}
	}
	return n
}

func sharesByWords(w impl.Want, list []impl.Island, left []int) []int {
	if !isWant(w) || !areIslands(list) || len(left) != len(list) {
		return nil
	}
	d := division{n: w.Copies, caps: left}
	for _, i := range list {
		n := 0
		if eligibleByWords(w, i) {
			n = weightByWords(w, i.Name)
		}
		d.weights = append(d.weights, n)
	}
	return dividedByWords(d)
}

func roomsOf(list []impl.Island) []int {
	out := []int{}
	for _, i := range list {
		out = append(out, i.Room)
	}
	return out
}

func plansByWords(wants []impl.Want, list []impl.Island) [][]int {
	plans, left := [][]int{}, roomsOf(list)
	for _, w := range wants {
		shares := sharesByWords(w, list, left)
		if !isWant(w) || len(list) > 0 && len(shares) == 0 || len(wants) > 40 {
			return nil
		}
		for at, n := range shares {
			left = withN(left, at, left[at]-n)
		}
		plans = append(plans, shares)
	}
	return plans
}

func samePlans(a, b [][]int) bool { return slices.EqualFunc(a, b, slices.Equal[[]int]) }

// behind is a copy of l with room behind it, in which these stand.
func behind[T any](l []T, more ...T) []T {
	return append(slices.Clone(l), more...)[:len(l)]
}

// whole is a copy of l with all that stands behind it.
func whole[T any](l []T) []T { return slices.Clone(l[:cap(l)]) }

// fit is what Eligible, Shares and Plans are asked.
type fit struct {
	wants []impl.Want
	list  []impl.Island
	left  []int
}

// roomy has room behind each list, in which stands what must neither be read nor written.
func (f fit) roomy() fit {
	out := fit{behind(f.wants, impl.Want{Copies: 3}, impl.Want{Copies: -1}), behind(f.list, islandIn("zz: ; ; 9"), impl.Island{}), behind(f.left, 9, 9, -1)}
	for i, w := range out.wants {
		out.wants[i].Select = behind(w.Select, impl.Term{Kind: impl.TermHas, Key: "zz"}, impl.Term{})
		out.wants[i].Bears = behind(w.Bears, "gold", "zz", "")
		out.wants[i].Weighs = behind(w.Weighs, impl.Weigh{Name: "a", N: 77}, impl.Weigh{Name: "zz", N: 0}, impl.Weigh{N: -1})
	}
	for i, x := range out.list {
		out.list[i].Labels = behind(x.Labels, labels("zone=east", "zz=1", "=")...)
		out.list[i].Spots = behind(x.Spots, "zz", "a", "")
	}
	return out
}

// whole is a copy of all that is handed in, with what stands behind it.
func (f fit) whole() fit {
	out := fit{whole(f.wants), whole(f.list), whole(f.left)}
	for i, w := range out.wants {
		out.wants[i].Select, out.wants[i].Bears, out.wants[i].Weighs = fullTerms(w.Select[:cap(w.Select)]), whole(w.Bears), whole(w.Weighs)
	}
	for i, x := range out.list {
		out.list[i].Labels, out.list[i].Spots = whole(x.Labels), whole(x.Spots)
	}
	return out
}

// asked hands f in with room behind each list, and asks whether anything was changed.
func asked[T any](t *testing.T, f fit, call func(f fit) T) T {
	t.Helper()
	f = f.roomy()
	kept := f.whole()
	got := call(f)
	if !reflect.DeepEqual(f.whole(), kept) {
		t.Fatalf("%.300v: an argument was changed: %.300v", kept, f)
	}
	return got
}

// eligibleRight asks the program for what the words say, and tells the answer.
func eligibleRight(t *testing.T, w impl.Want, i impl.Island) bool {
	t.Helper()
	got := asked(t, fit{wants: []impl.Want{w}, list: []impl.Island{i}}, func(f fit) bool { return impl.Eligible(f.wants[0], f.list[0]) })
	if got != eligibleByWords(w, i) {
		t.Fatalf("%.300v on %.300v: %v", w, i, got)
	}
	return got
}

func sharesRight(t *testing.T, w impl.Want, list []impl.Island, left []int) []int {
	t.Helper()
	got := asked(t, fit{[]impl.Want{w}, list, left}, func(f fit) []int { return impl.Shares(f.wants[0], f.list, f.left) })
	if want := sharesByWords(w, list, left); !slices.Equal(got, want) {
		t.Fatalf("%.300v on %.300v, %.100v left: %v, not %v", w, list, left, got, want)
	}
	keepsPromise10(t, []impl.Want{w}, list, left, [][]int{got})
	return got
}

func plansRight(t *testing.T, wants []impl.Want, list []impl.Island) [][]int {
	t.Helper()
	got := asked(t, fit{wants: wants, list: list}, func(f fit) [][]int { return impl.Plans(f.wants, f.list) })
	if want := plansByWords(wants, list); !samePlans(got, want) {
		t.Fatalf("%.300v on %.300v: %v, not %v", wants, list, got, want)
	}
	keepsPromise10(t, wants, list, roomsOf(list), got)
	return got
}

// keepsPromise10 asks that no island gets more than it has room for, no want more than its copies, and nobody anything where it may not be.
func keepsPromise10(t *testing.T, wants []impl.Want, list []impl.Island, rooms []int, plans [][]int) {
	t.Helper()
	got := row(len(list), 0)
	for i, shares := range plans {
		sum := 0
		for at, n := range shares {
			sum += n
			got[at] += n
			if n < 0 || got[at] > rooms[at] || n > 0 && !eligibleByWords(wants[i], list[at]) {
				t.Fatalf("%.300v on %.300v: %v: what island %d gets", wants, list, plans, at)
			}
		}
		if sum > max(wants[i].Copies, 0) {
			t.Fatalf("%.300v on %.300v: %v: what want %d gets", wants, list, plans, i)
		}
	}
}

func TestFitConstants(t *testing.T) {
	if impl.MaxIslands != mostIslands {
		t.Error(impl.MaxIslands)
	}
}

const (
	usualIsland = "a: app=web zone=east; gold tin; 5"
	usualWant   = "6: zone=east,!old; gold lead tin; a*2 b*0 c*1000"
)

func islandWith(change func(i *impl.Island)) impl.Island {
	i := islandIn(usualIsland)
	change(&i)
	return i
}

func wantWith(change func(w *impl.Want)) impl.Want {
	w := wantIn(usualWant)
	change(&w)
	return w
}

// weighsOf are weights of these names, all of them n.
func weighsOf(n int, names ...string) []impl.Weigh {
	out := []impl.Weigh{}
	for _, name := range names {
		out = append(out, impl.Weigh{Name: name, N: n})
	}
	return out
}

// rightIslands are right, by what they are there for.
func rightIslands() map[string]impl.Island {
	out := map[string]impl.Island{
		"a name alone": {Name: "a"}, "the usual one": islandIn(usualIsland), "MaxLabels": {Name: "a", Labels: full()},
		"all at their limits": {Name: longName, Labels: full(), Spots: []string{"a", "b", "c", longName}, Room: mostCopies},
	}
	for _, s := range []string{"0: ; ; 0", "a-9: ; ; 1", "a: ; ; 9999", "a: ; ; 10000", "a: ; a; 0", "a: ; a b c; 5", "a: ; a b c d; 5", "a: ; a a-b a0 aa; 5", "a: ; a10 a9; 5", "a: a=a; a; 5", "a: a10=z a9=b; ; 5", longName + ": ; ; 5"} {
		out[s] = islandIn(s)
	}
	return out
}

// wrongIslands are not right, by what is wrong with them.
func wrongIslands() map[string]impl.Island {
	out := map[string]impl.Island{"the zero island": {}, "no name": islandIn(": a=b; ; 5"), "all of it": {Name: "-", Labels: labels("="), Spots: []string{""}, Room: -1}}
	for _, name := range wrongNames {
		out["the name "+name] = islandWith(func(i *impl.Island) { i.Name = name })
		out["alone, the name "+name] = impl.Island{Name: name}
	}
	for why, l := range notLabels() {
		out["labels: "+why] = islandWith(func(i *impl.Island) { i.Labels = l })
	}
	for n, l := range wrongRows(mostSpots) {
		out["spots: "+strconv.Itoa(n)] = islandWith(func(i *impl.Island) { i.Spots = l })
	}
	for _, n := range farNumbers {
		out["room "+strconv.Itoa(n)] = islandWith(func(i *impl.Island) { i.Room = n })
		out["a name, and room "+strconv.Itoa(n)] = impl.Island{Name: "a", Room: n}
	}
	return out
}

// rightWants are right, by what they are there for.
func rightWants() map[string]impl.Want {
	out := map[string]impl.Want{
		"the zero want": {}, "the usual one": wantIn(usualWant), "MaxBears": {Bears: ascendingNames(mostBears)}, "MaxIslands Weighs": {Weighs: weighsOf(5, ascendingNames(mostIslands)...)}, "one fewer of both": {Bears: ascendingNames(mostBears - 1), Weighs: weighsOf(0, ascendingNames(mostIslands-1)...)},
		"the longest names": {Bears: []string{longName}, Weighs: weighsOf(7, "a", longName)},
	}
	out["all at their limits"] = impl.Want{Copies: mostCopies, Select: wantIn("0: " + eight + "; ;").Select, Bears: ascendingNames(mostBears), Weighs: weighsOf(mostWeight, ascendingNames(mostIslands)...)}
	for _, s := range []string{"1: ; ; ", "9999: ; ; ", "10000: ; ; ", "0: ; a; ", "0: ; a a-b a0 aa b c d e; ", "0: ; a10 a9; ", "0: ; ; a*0", "0: ; ; a*1", "0: ; ; a*999", "0: ; ; a*1000", "0: ; ; a*0 b*0 c*0", "0: ; ; a*1000 a-b*0 a0*5 aa*5", "0: ; ; a10*2 a9*1", "5: a,!a; ; "} {
		out[s] = wantIn(s)
	}
	for _, s := range rightTexts {
		out["Select "+s] = wantWith(func(w *impl.Want) { w.Select, _ = selectorOfText(s) })
	}
	return out
}

// wrongWants are not right, by what is wrong with them.
func wrongWants() map[string]impl.Want {
	out := map[string]impl.Want{
		"an empty Weigh": {Weighs: []impl.Weigh{{}}}, "the last Weigh is empty": wantWith(func(w *impl.Want) { w.Weighs = append(w.Weighs, impl.Weigh{}) }), "alike, with other weights": {Weighs: []impl.Weigh{{Name: "a", N: 1}, {Name: "a", N: 2}}},
		"all of it": {Copies: -1, Select: []impl.Term{{}}, Bears: []string{""}, Weighs: []impl.Weigh{{N: -1}}},
	}
	for _, n := range farNumbers {
		s := strconv.Itoa(n)
		out["copies "+s] = wantWith(func(w *impl.Want) { w.Copies = n })
		out["nothing but copies "+s] = impl.Want{Copies: n}
		for i := range 3 {
			out["place "+strconv.Itoa(i)+", N "+s] = wantWith(func(w *impl.Want) { w.Weighs[i].N = n })
		}
	}
	for i := range 3 {
		out["one above MaxWeight in place "+strconv.Itoa(i)] = wantWith(func(w *impl.Want) { w.Weighs[i].N = mostWeight + 1 })
	}
	for why, sel := range notSelectors() {
		out["Select: "+why] = wantWith(func(w *impl.Want) { w.Select = sel })
	}
	for n, l := range wrongRows(mostBears) {
		out["Bears: "+strconv.Itoa(n)] = wantWith(func(w *impl.Want) { w.Bears = l })
	}
	for n, l := range wrongRows(mostIslands) {
		out["Weighs: "+strconv.Itoa(n)] = wantWith(func(w *impl.Want) { w.Weighs = weighsOf(n%3, l...) })
	}
	return out
}

func TestIslandOk(t *testing.T) {
	tellsApart(t, rightIslands(), wrongIslands(), isIsland, impl.IslandOk)
}

func TestWantOk(t *testing.T) {
	tellsApart(t, rightWants(), wrongWants(), isWant, impl.WantOk)
}

// A number of 0 and of the limit is accepted, one below 0 and one above it are not.
func TestFitOfNumbersAtTheLimits(t *testing.T) {
	for what, x := range map[string]struct {
		most int
		ok   func(n int) bool
	}{
		"Room":   {mostCopies, func(n int) bool { return impl.IslandOk(impl.Island{Name: "a", Room: n}) }},
		"Copies": {mostCopies, func(n int) bool { return impl.WantOk(impl.Want{Copies: n}) }},
		"N":      {mostWeight, func(n int) bool { return impl.WantOk(impl.Want{Weighs: weighsOf(n, "a")}) }},
		"left":   {mostCopies, func(n int) bool { return len(impl.Shares(impl.Want{}, islandsIn("a: ; ; 5"), []int{n})) == 1 }},
	} {
		for _, n := range []int{-2, -1, 0, 1, x.most - 1, x.most, x.most + 1, x.most + 2} {
			if x.ok(n) != (0 <= n && n <= x.most) {
				t.Errorf("%s: %d: %v", what, n, x.ok(n))
			}
		}
	}
}

// As many as the limit are accepted, one more is not.
func TestFitOfListsAtTheLimits(t *testing.T) {
	alike := func(n int) []impl.Island { return slices.Repeat(islandsIn("a: ; ; 5"), n) }
	for what, x := range map[string]struct {
		most int
		ok   func(n int) bool
	}{
		"Spots":            {mostSpots, func(n int) bool { return impl.IslandOk(impl.Island{Name: "a", Spots: ascendingNames(n)}) }},
		"Bears":            {mostBears, func(n int) bool { return impl.WantOk(impl.Want{Bears: ascendingNames(n)}) }},
		"Weighs":           {mostIslands, func(n int) bool { return impl.WantOk(impl.Want{Weighs: weighsOf(1, ascendingNames(n)...)}) }},
		"islands":          {mostIslands, func(n int) bool { return len(impl.Shares(impl.Want{}, alike(n), row(n, 5))) == n }},
		"planned islands":  {mostIslands, func(n int) bool { return len(impl.Plans(make([]impl.Want, 3), alike(n))) == 3 }},
		"wants":            {mostWants, func(n int) bool { return len(impl.Plans(make([]impl.Want, n), alike(2))) == n }},
		"wants of nothing": {mostWants, func(n int) bool { return len(impl.Plans(make([]impl.Want, n), nil)) == n }},
	} {
		for n := 1; n < x.most+5; n++ {
			if x.ok(n) != (n <= x.most) {
				t.Errorf("%s: %d: %v", what, n, x.ok(n))
			}
		}
	}
}

// eligibleByHand are wants on islands with whether they may come there.
var eligibleByHand = map[string][]struct {
	want, island string
	ok           bool
}{
	"nothing forbids": {
		{"0: ; ; ", "a: ; ; 0", true}, {usualWant, usualIsland, true}, {"5: ; ; ", "a: zone=east; ; 5", true}, {"5: ; gold; ", "a: ; ; 5", true}, {"5: ; gold tin; ", "a: ; gold; 5", true}, {"5: ; gold tin; ", "a: ; tin; 5", true}, {"5: ; gold tin; ", "a: ; gold tin; 5", true},
		{"5: zone=east; ; ", "a: zone=east; ; 5", true}, {"5: zone!=east; ; ", "a: ; ; 5", true}, {"5: zone in (east west); ; ", "a: zone=west; ; 5", true}, {"5: zone; ; ", "a: zone=west; ; 5", true}, {"5: !zone; ; ", "a: ; ; 5", true}, {"5: !zone; ; ", "zone: app=zone; ; 5", true},
	},
	"no copies, no room, no weight": {
		{"0: ; ; ", "a: ; ; 5", true}, {"5: ; ; ", "a: ; ; 0", true}, {"5: ; ; a*0", "a: ; ; 5", true}, {"10000: ; ; ", "a: ; ; 1", true},
	},
	"labels": {
		{"5: zone=east; ; ", "a: zone=west; ; 5", false}, {"5: zone=east; ; ", "a: ; ; 5", false}, {"5: zone=east; ; ", "zone: east=zone; ; 5", false}, {"5: zone!=east; ; ", "a: zone=east; ; 5", false}, {"5: zone in (east west); ; ", "a: zone=north; ; 5", false}, {"5: zone; ; ", "a: ; ; 5", false}, {"5: !zone; ; ", "a: zone=east; ; 5", false},
		{"5: zone=east,app=db; ; ", "a: app=web zone=east; ; 5", false}, {"5: app=db,zone=east; ; ", "a: app=web zone=east; ; 5", false}, {"5: zone,!zone; ; ", "a: zone=east; ; 5", false}, {"5: zone,!zone; ; ", "a: ; ; 5", false}, {"5: gold; gold; ", "a: ; gold; 5", false}, {"5: a; a; a*5", "a: ; a; 5", false},
	},
	"spots": {
		{"5: ; ; ", "a: ; gold; 5", false}, {"5: ; tin; ", "a: ; gold; 5", false}, {"5: ; gold; ", "a: ; gold tin; 5", false}, {"5: ; tin; ", "a: ; gold tin; 5", false}, {"5: ; a b c; ", "a: ; a b c d; 5", false}, {"5: ; b c d; ", "a: ; a b c d; 5", false}, {"5: ; a c d; ", "a: ; a b c d; 5", false},
		{"5: ; gol gold-; ", "a: ; gold; 5", false}, {"5: ; gol golden; ", "a: ; gold; 5", false}, {"5: ; ; gold*5", "a: ; gold; 5", false}, {"5: gold; ; ", "gold: gold=gold; gold; 5", false}, {"5: ; a b c d e f g h; ", "a: ; e f g h; 5", true}, {"5: ; a b c d e f g h; ", "a: ; a c e i; 5", false},
	},
}

func TestEligible(t *testing.T) {
	for why, list := range eligibleByHand {
		for _, x := range list {
			if got := eligibleRight(t, wantIn(x.want), islandIn(x.island)); got != x.ok {
				t.Errorf("%s: %q on %q: %v", why, x.want, x.island, got)
			}
		}
	}
}

// Where one of both is not right it forbids alone: nothing else would.
func TestEligibleOfWhatIsNotRight(t *testing.T) {
	for whyNot, i := range wrongIslands() {
		for why, w := range rightWants() {
			if eligibleRight(t, w, i) {
				t.Errorf("%s on %.60s", why, whyNot)
			}
		}
		bears := slices.Compact(slices.Sorted(slices.Values(i.Spots)))
		if eligibleRight(t, impl.Want{Bears: bears[:min(len(bears), mostBears)]}, i) {
			t.Errorf("what bears all on %.60s", whyNot)
		}
	}
	for whyNot, w := range wrongWants() {
		for why, i := range rightIslands() {
			if eligibleRight(t, w, i) {
				t.Errorf("%.60s on %s", whyNot, why)
			}
		}
		if isSelector(w.Select) {
			w.Select = nil
		}
		if eligibleRight(t, w, islandIn("d: a=1; ; 5")) {
			t.Errorf("%.60s on an island that all may come to", whyNot)
		}
	}
}

// rowsUpTo are all ascending rows of these.
func rowsUpTo(names ...string) [][]string {
	out := [][]string{nil}
	for _, name := range names {
		for _, l := range out {
			out = append(out, append(slices.Clone(l), name))
		}
	}
	return out
}

func TestEligibleOfAllSmallOnes(t *testing.T) {
	sels := [][]impl.Term{nil, terms(t, "a=x,b=x"), terms(t, "a,!b"), terms(t, "a,!a")}
	for _, x := range smallTerms(t) {
		sels = append(sels, []impl.Term{x})
	}
	seen := map[bool]int{}
	for _, sel := range sels {
		for _, bears := range rowsUpTo("g", "h", "i") {
			for _, l := range allLabels("x", "y") {
				for _, spots := range rowsUpTo("g", "h", "i") {
					seen[eligibleRight(t, impl.Want{Copies: 1, Select: sel, Bears: bears}, impl.Island{Name: "a", Labels: l, Spots: spots, Room: 1})]++
				}
			}
		}
	}
	if seen[true] < 1000 || seen[false] < 1000 {
		t.Error("too few were tried:", seen)
	}
}

func TestWeightOf(t *testing.T) {
	for _, x := range []struct {
		weighs, name string
		want         int
	}{
		{"", "a", 1}, {"", "", 1}, {"", "-", 1}, {"a*5", "a", 5}, {"a*5", "b", 1}, {"a*5", "", 1}, {"a*0", "a", 0}, {"a*0", "b", 1}, {"a*1", "a", 1}, {"a*1000", "a", 1000},
		{"a*2 b*3 c*4", "a", 2}, {"a*2 b*3 c*4", "b", 3}, {"a*2 b*3 c*4", "c", 4}, {"a*2 b*3 c*4", "d", 1}, {"a*2 c*4", "b", 1}, {"b*3", "a", 1}, {"b*3 c*4", "", 1}, {"a*0 b*0 c*0", "c", 0}, {"a*0 b*0 c*0", "d", 1}, {"a*2 b*0 c*4", "b", 0}, {"a*2 b*0 c*0", "a", 2},
		{"a*2 b*3", "aa", 1}, {"aa*2 b*3", "a", 1}, {"a*2 b*3", "a ", 1}, {"a*2 b*3", "A", 1}, {"gold*2", "gol", 1}, {"gold*2", "golden", 1}, {"k*2 " + longName + "*7", longName, 7}, {longName + "*7", longName + "n", 1},
	} {
		w := wantIn("5: ; ; " + x.weighs)
		if got := impl.WeightOf(w, x.name); got != x.want || weightByWords(w, x.name) != x.want {
			t.Errorf("%q of %q: %d", x.name, x.weighs, got)
		}
	}
	if got := impl.WeightOf(wantIn("9: a; b; "), "a"); got != 1 {
		t.Error("of neither a key nor what is borne:", got)
	}
}

// Of a want that is not right, too, the first Weigh of the name counts, whatever stands there.
func TestWeightOfAnyWeighs(t *testing.T) {
	for _, x := range []struct {
		weighs []impl.Weigh
		name   string
		want   int
	}{
		{[]impl.Weigh{{Name: "a", N: 2}, {Name: "a", N: 3}}, "a", 2}, {[]impl.Weigh{{Name: "b", N: 2}, {Name: "a", N: 3}, {Name: "b", N: 4}}, "b", 2}, {[]impl.Weigh{{Name: "b", N: 2}, {Name: "a", N: 3}}, "a", 3}, {[]impl.Weigh{{Name: "a"}, {Name: "a", N: 3}}, "a", 0},
		{[]impl.Weigh{{Name: "a", N: -5}}, "a", -5}, {[]impl.Weigh{{Name: "a", N: mostWeight + 1}}, "a", mostWeight + 1}, {[]impl.Weigh{{N: 7}}, "", 7}, {[]impl.Weigh{{Name: "-", N: 7}}, "-", 7}, {weighsOf(9, ascendingNames(100)...), "k099", 9}, {weighsOf(9, ascendingNames(100)...), "k100", 1},
	} {
		for _, w := range []impl.Want{{Weighs: x.weighs}, {Copies: -1, Weighs: x.weighs}, {Weighs: behind(x.weighs, impl.Weigh{Name: "k100", N: 77})}} {
			if got := impl.WeightOf(w, x.name); got != x.want {
				t.Errorf("%.300v: %q: %d", w, x.name, got)
			}
		}
	}
	for why, w := range wrongWants() {
		for _, name := range append([]string{"a", "b", "c", "x", "zz"}, wrongNames...) {
			if got := impl.WeightOf(w, name); got != weightByWords(w, name) {
				t.Errorf("%.60s: %.60q: %d", why, name, got)
			}
		}
	}
}

// sharesByHand are Shares with what they must answer.
var sharesByHand = map[string][]struct {
	want, islands string
	left, shares  []int
}{
	"by weights": {
		{"6: ; ; ", "a: ; ; 9 | b: ; ; 9", []int{9, 9}, []int{3, 3}}, {"6: ; ; a*2", "a: ; ; 9 | b: ; ; 9", []int{9, 9}, []int{4, 2}}, {"6: ; ; b*2", "a: ; ; 9 | b: ; ; 9", []int{9, 9}, []int{2, 4}}, {"7: ; ; a*1000 b*1000", "a: ; ; 9 | b: ; ; 9", []int{9, 9}, []int{4, 3}},
		{"10: ; ; a*5 b*3 c*2", "c: ; ; 9 | a: ; ; 9 | b: ; ; 9", []int{99, 99, 99}, []int{2, 5, 3}}, {"6: ; ; b*2 x*500", "a: ; ; 9 | b: ; ; 9", []int{9, 9}, []int{2, 4}}, {"5: ; ; ", "a: ; ; 9 | b: ; ; 9 | c: ; ; 9", []int{9, 9, 9}, []int{2, 2, 1}},
	},
	"weights of nothing": {
		{"6: ; ; a*0 b*0", "a: ; ; 5 | b: ; ; 5", []int{5, 5}, []int{0, 0}}, {"6: ; ; a*0", "a: ; ; 5", []int{5}, []int{0}}, {"6: ; ; a*0", "a: ; ; 5 | b: ; ; 5", []int{5, 5}, []int{0, 5}}, {"6: ; ; b*0", "a: ; ; 9 | b: ; ; 9", []int{9, 9}, []int{6, 0}}, {"6: ; ; a*0 b*2 c*0 d*1", "a: ; ; 9 | b: ; ; 9 | c: ; ; 9 | d: ; ; 9", []int{9, 9, 9, 9}, []int{0, 4, 0, 2}},
		{"6: ; ; x*0", "a: ; ; 9 | b: ; ; 9", []int{9, 9}, []int{3, 3}}, {"6: ; gold; a*0", "a: ; gold; 9 | b: ; lead; 9", []int{9, 9}, []int{0, 0}},
	},
	"no island is eligible": {
		{"6: zone=west; ; ", "a: zone=east; ; 5 | b: ; ; 5", []int{5, 5}, []int{0, 0}}, {"6: ; ; a*1000", "a: ; gold; 5 | b: ; tin; 5", []int{5, 5}, []int{0, 0}}, {"6: a,!a; ; ", "a: a=b; ; 5", []int{5}, []int{0}},
	},
	"some are": {
		{"6: zone=east; ; ", "a: zone=east; ; 9 | b: zone=west; ; 9", []int{9, 9}, []int{6, 0}}, {"6: zone!=east; ; ", "a: zone=east; ; 9 | b: zone=west; ; 9", []int{9, 9}, []int{0, 6}}, {"6: ; gold; ", "a: ; gold; 9 | b: ; tin; 9 | c: ; ; 9", []int{9, 9, 9}, []int{3, 0, 3}}, {"6: ; ; b*1000", "a: ; ; 2 | b: ; gold; 9", []int{2, 9}, []int{2, 0}},
	},
	"no islands": {{"6: ; ; ", "", nil, nil}, {"0: ; ; ", "", []int{}, nil}, {"6: ; ; a*5", "", nil, nil}, {"6: ; ; ", "", []int{5}, nil}, {"-1: ; ; ", "", nil, nil}},
	"left of as many, fewer and more": {
		{"6: ; ; ", "a: ; ; 9 | b: ; ; 9", []int{9, 9}, []int{3, 3}}, {"6: ; ; ", "a: ; ; 9 | b: ; ; 9", []int{9}, nil}, {"6: ; ; ", "a: ; ; 9 | b: ; ; 9", nil, nil}, {"6: ; ; ", "a: ; ; 9 | b: ; ; 9", []int{9, 9, 9}, nil}, {"6: ; ; ", "a: ; ; 9 | b: ; ; 9", []int{9, 9, 0}, nil}, {"0: ; ; ", "a: ; ; 9", nil, nil},
	},
	"left at its limits": {
		{"6: ; ; ", "a: ; ; 9 | b: ; ; 9", []int{0, 9}, []int{0, 6}}, {"6: ; ; ", "a: ; ; 9 | b: ; ; 9", []int{0, 0}, []int{0, 0}}, {"10000: ; ; ", "a: ; ; 9 | b: ; ; 9", []int{mostCopies, mostCopies}, []int{5000, 5000}}, {"10000: ; ; ", "a: ; ; 9", []int{mostCopies}, []int{mostCopies}},
		{"6: ; ; ", "a: ; ; 9 | b: ; ; 9", []int{9, -1}, nil}, {"6: ; ; ", "a: ; ; 9 | b: ; ; 9", []int{-1, 9}, nil}, {"6: ; ; ", "a: ; ; 9 | b: ; ; 9", []int{9, mostCopies + 1}, nil}, {"6: ; ; ", "a: ; ; 9 | b: ; gold; 9", []int{9, -1}, nil}, {"6: ; ; b*0", "a: ; ; 9 | b: ; ; 9", []int{9, mostCopies + 1}, nil}, {"0: ; ; ", "a: ; ; 9", []int{-1}, nil},
	},
	"left is not the room": {
		{"6: ; ; ", "a: ; ; 0 | b: ; ; 0", []int{9, 9}, []int{3, 3}}, {"6: ; ; ", "a: ; ; 9 | b: ; ; 9", []int{1, 2}, []int{1, 2}}, {"6: ; ; ", "a: ; ; 10000 | b: ; ; 1", []int{0, 99}, []int{0, 6}},
	},
	"less left than Copies": {
		{"6: ; ; ", "a: ; ; 9 | b: ; ; 9", []int{2, 3}, []int{2, 3}}, {"10000: ; ; a*1000", "a: ; ; 9 | b: ; ; 9", []int{9, 8}, []int{9, 8}}, {"6: ; ; b*0", "a: ; ; 9 | b: ; ; 9", []int{5, 9}, []int{5, 0}}, {"6: ; ; ", "a: ; ; 9 | b: ; gold; 9", []int{5, 9}, []int{5, 0}}, {"6: ; ; a*9", "a: ; ; 9 | b: ; ; 9", []int{1, 9}, []int{1, 5}},
	},
	"just as many left, and one more": {
		{"5: ; ; ", "a: ; ; 9 | b: ; ; 9", []int{2, 3}, []int{2, 3}}, {"5: ; ; ", "a: ; ; 9 | b: ; ; 9", []int{2, 4}, []int{2, 3}}, {"5: ; ; a*3", "a: ; ; 9 | b: ; ; 9", []int{3, 3}, []int{3, 2}},
	},
	"no copies": {{"0: ; ; ", "a: ; ; 9 | b: ; ; 9", []int{9, 9}, []int{0, 0}}, {"0: ; ; a*0", "a: ; gold; 9", []int{0}, []int{0}}},
	"islands alike": {
		{"6: ; ; ", "a: ; ; 9 | a: ; ; 9", []int{9, 9}, []int{3, 3}}, {"6: ; ; a*5", "a: ; ; 9 | b: ; ; 9 | a: ; ; 9", []int{9, 9, 9}, []int{3, 0, 3}}, {"6: ; ; a*0", "a: ; ; 9 | a: ; ; 9", []int{9, 9}, []int{0, 0}}, {"6: ; ; ", "a: ; ; 9 | a: ; ; 9", []int{1, 9}, []int{1, 5}}, {"6: ; ; ", "a: ; gold; 9 | a: ; ; 9", []int{9, 9}, []int{0, 6}},
		{"13: ; ; ", strings.Repeat("a: ; ; 9 |", mostIslands), row(mostIslands, 5), firstOnes(mostIslands, 1, 1)}, {"13: ; ; ", strings.Repeat("a: ; ; 9 |", mostIslands+1), row(mostIslands+1, 5), nil}, {"13: ; ; ", strings.Repeat("a: ; ; 9 |", mostIslands+1), row(mostIslands, 5), nil},
	},
}

func TestShares(t *testing.T) {
	for why, list := range sharesByHand {
		for _, x := range list {
			if got := sharesRight(t, wantIn(x.want), islandsIn(x.islands), x.left); !slices.Equal(got, x.shares) {
				t.Errorf("%s: %q on %q, %v left: %v, not %v", why, x.want, x.islands, x.left, got, x.shares)
			}
		}
	}
}

// Of what is not right Shares answers nothing, wherever it stands, and though nothing of it would be given there.
func TestSharesOfWhatIsNotRight(t *testing.T) {
	list := islandsIn("a: zone=east; ; 9 | b: ; gold; 9 | " + usualIsland)
	for why, w := range wrongWants() {
		for n := range 4 {
			if got := sharesRight(t, w, list[:n], row(n, 9)); len(got) != 0 {
				t.Errorf("%.60s on %d islands: %v", why, n, got)
			}
		}
	}
	for why, i := range wrongIslands() {
		for _, w := range wantsIn("6: ; gold tin; | 0: ; ; | 6: a,!a; ; | 6: ; ; a*0 b*0 | 6: zone=east; ; ") {
			for place := range list {
				spoiled := slices.Clone(list)
				spoiled[place] = i
				if got := sharesRight(t, w, spoiled, row(len(list), 9)); len(got) != 0 {
					t.Errorf("%.60s in place %d: %v", why, place, got)
				}
			}
			if got := sharesRight(t, w, []impl.Island{i}, []int{5}); len(got) != 0 {
				t.Errorf("%.60s alone: %v", why, got)
			}
		}
	}
	for _, n := range farNumbers {
		for place := range list {
			for _, w := range wantsIn("6: ; gold tin; | 0: ; ; | 6: a,!a; ; | 6: ; ; a*0 b*0") {
				if got := sharesRight(t, w, list, withN(row(len(list), 9), place, n)); len(got) != 0 {
					t.Errorf("%d left in place %d: %v", n, place, got)
				}
			}
		}
	}
}

// smallIslands are one that anybody may come to, and ones that some may.
const smallIslands = "a: ; ; 2 | b: x=y; ; 3 | c: ; gold; 1"

func TestSharesOfAllSmallOnes(t *testing.T) {
	wants := wantsIn("3: ; ; | 3: x; ; | 4: !x; gold; | 2: ; gold; a*2 c*0 | 5: ; gold; a*0 b*3 | 0: ; gold; | 1: ; tin; c*9")
	for count := range 4 {
		eachRow(count, 0, 2, func(places []int) {
			list := pickedIslands(places)
			eachRow(count, 0, 3, func(left []int) {
				for _, w := range wants {
					sharesRight(t, w, list, left)
				}
			})
		})
		for others := range 4 {
			sharesRight(t, wants[0], pickedIslands(row(count, 1)), row(others, 2))
		}
	}
}

// pickedIslands are those of smallIslands in these places.
func pickedIslands(places []int) []impl.Island {
	all, out := islandsIn(smallIslands), []impl.Island{}
	for _, place := range places {
		out = append(out, all[place])
	}
	return out
}

// plansByHand are Plans with what they must answer, a row a want.
var plansByHand = map[string][]struct {
	wants, islands string
	plans          [][]int
}{
	"of no wants": {{"", "a: ; ; 5", nil}, {"", "", nil}, {"", "-: ; ; 5", nil}, {"", strings.Repeat("a: ; ; 9 |", mostIslands+1), nil}},
	"one after the other": {
		{"4: ; ; | 4: ; ; ", "a: ; ; 5 | b: ; ; 9", [][]int{{2, 2}, {2, 2}}}, {"4: zone=east; ; | 9: ; gold; ", "a: zone=east; ; 5 | b: ; gold; 3", [][]int{{4, 0}, {1, 3}}}, {"9: ; gold; | 4: zone=east; ; ", "a: zone=east; ; 5 | b: ; gold; 3", [][]int{{5, 3}, {0, 0}}},
		{"6: ; ; a*2 | 6: ; ; b*2 | 6: ; ; ", "a: ; ; 7 | b: ; ; 7", [][]int{{4, 2}, {2, 4}, {1, 1}}}, {"1: ; ; | 1: ; ; | 1: ; ; ", "a: ; ; 2 | b: ; ; 2", [][]int{{1, 0}, {1, 0}, {0, 1}}},
	},
	"what is left runs out": {
		{"3: ; ; | 3: ; ; | 3: ; ; ", "a: ; ; 5", [][]int{{3}, {2}, {0}}}, {"5: ; ; | 3: ; ; | 3: ; ; ", "a: ; ; 5", [][]int{{5}, {0}, {0}}}, {"9: ; ; | 9: ; ; | 9: ; gold; ", "a: ; ; 5 | b: ; ; 3 | c: ; gold; 2", [][]int{{5, 3, 0}, {0, 0, 0}, {0, 0, 2}}}, {"10000: ; ; | 10000: ; ; | 1: ; ; ", "a: ; ; 10000 | b: ; ; 10000", [][]int{{5000, 5000}, {5000, 5000}, {0, 0}}},
	},
	"room of nothing": {
		{"3: ; ; | 3: ; ; ", "a: ; ; 0", [][]int{{0}, {0}}}, {"3: ; ; | 3: ; ; ", "a: ; ; 0 | b: ; ; 4", [][]int{{0, 3}, {0, 1}}}, {"3: ; ; a*1000", "a: ; ; 0 | b: ; ; 4", [][]int{{0, 3}}},
	},
	"weights and copies of nothing": {
		{"0: ; ; | 3: ; ; ", "a: ; ; 5", [][]int{{0}, {3}}}, {"9: ; ; a*0 | 3: ; ; ", "a: ; ; 5", [][]int{{0}, {3}}}, {"9: ; ; a*0 b*0 | 9: ; ; a*0 | 9: ; ; b*0", "a: ; ; 5 | b: ; ; 5", [][]int{{0, 0}, {0, 5}, {5, 0}}}, {"9: a,!a; ; | 3: ; ; ", "a: ; ; 5", [][]int{{0}, {3}}},
	},
	"no islands": {{"6: ; ; ", "", [][]int{nil}}, {"6: ; ; | 0: ; ; a*3 | 6: a; b; ", "", [][]int{nil, nil, nil}}, {"6: ; ; | -1: ; ; ", "", nil}, {"10001: ; ; ", "", nil}},
	"one want is not right": {
		{"-1: ; ; | 3: ; ; ", "a: ; ; 5", nil}, {"3: ; ; | 10001: ; ; ", "a: ; ; 5", nil}, {"3: ; ; | 3: ; b a; | 3: ; ; ", "a: ; ; 5", nil}, {"3: ; ; | 3: ; ; | 0: ; ; a*1001", "a: ; ; 0", nil}, {"3: ; ; | 0: ; ; a*-1", "a: ; ; 5", nil},
	},
	"one island is not right": {
		{"3: ; ; ", "a: ; ; -1", nil}, {"3: ; ; ", "a: ; ; 10001", nil}, {"3: ; ; ", "a: ; ; 5 | : ; ; 5", nil}, {"3: ; ; ", "a: ; a a; 5 | b: ; ; 5", nil}, {"0: a,!a; ; ", "a: ; ; 5 | b: x=-; ; 5", nil}, {"3: ; ; ", strings.Repeat("a: ; ; 9 |", mostIslands+1), nil},
	},
	"islands alike": {{"6: ; ; a*2 | 9: ; ; ", "a: ; ; 4 | b: ; ; 4 | a: ; ; 4", [][]int{{3, 1, 2}, {1, 3, 2}}}, {"3: ; ; | 3: ; ; ", strings.Repeat("a: ; ; 1 |", mostIslands), [][]int{append(row(3, 1), row(9, 0)...), slices.Concat(row(3, 0), row(3, 1), row(6, 0))}}},
	"wants alike":   {{strings.Repeat("1: ; ; |", mostWants), "a: ; ; 39", append(slices.Repeat([][]int{{1}}, 39), []int{0})}, {strings.Repeat("1: ; ; |", mostWants+1), "a: ; ; 39", nil}, {strings.Repeat("1: ; ; |", mostWants+1), "", nil}, {strings.Repeat("1: ; ; |", mostWants), "", make([][]int, mostWants)}},
}

func TestPlans(t *testing.T) {
	for why, list := range plansByHand {
		for _, x := range list {
			if got := plansRight(t, wantsIn(x.wants), islandsIn(x.islands)); !samePlans(got, x.plans) {
				t.Errorf("%s: %q on %q: %v, not %v", why, x.wants, x.islands, got, x.plans)
			}
		}
	}
}

// Whatever is not right, and wherever it stands, nothing is planned.
func TestPlansOfWhatIsNotRight(t *testing.T) {
	wants, list := wantsIn("2: ; ; | 3: ; gold; b*2 | 9: ; ; "), islandsIn("a: ; ; 4 | b: ; gold; 4 | c: ; ; 0")
	if got := plansRight(t, wants, list); len(got) != 3 {
		t.Fatal(got)
	}
	for why, w := range wrongWants() {
		for place := range wants {
			spoiled := slices.Clone(wants)
			spoiled[place] = w
			for n := range 4 {
				if got := plansRight(t, spoiled, list[:n]); len(got) != 0 {
					t.Errorf("%.60s in place %d, on %d islands: %v", why, place, n, got)
				}
			}
		}
	}
	for why, i := range wrongIslands() {
		for place := range list {
			spoiled := slices.Clone(list)
			spoiled[place] = i
			for n := range 4 {
				if got := plansRight(t, wants[:n], spoiled); len(got) != 0 {
					t.Errorf("%.60s in place %d, of %d wants: %v", why, place, n, got)
				}
			}
		}
	}
}

func TestPlansOfAllSmallOnes(t *testing.T) {
	all := wantsIn("2: ; ; | 3: x; ; | 1: !x; gold; | 4: ; gold; a*2 c*0 | 5: ; gold; a*0 | 0: ; ; ")
	for count := range 4 {
		eachRow(count, 0, len(all)-1, func(places []int) {
			wants := []impl.Want{}
			for _, place := range places {
				wants = append(wants, all[place])
			}
			for islands := range 4 {
				eachRow(islands, 0, 2, func(places []int) { plansRight(t, wants, pickedIslands(places)) })
			}
		})
	}
}

// anyOf are some of these, in order, most at most.
func anyOf(rnd *rand.Rand, most int, names ...string) []string {
	out := []string{}
	for _, name := range names {
		if len(out) < most && rnd.Intn(3) == 0 {
			out = append(out, name)
		}
	}
	return out
}

// anyWant is right but for one of many, and wants at most so many copies.
func anyWant(rnd *rand.Rand, most int) impl.Want {
	sels := []string{"", "", "", "a", "!a", "a=x", "a!=x", "a in (x y)", "b,a", "!b", "a!=y,b!=y"}
	w := impl.Want{Copies: anyNumber(rnd, most), Bears: anyOf(rnd, mostBears, "gold", "lead", "tin", "zinc")}
	w.Select, _ = selectorOfText(sels[rnd.Intn(len(sels))])
	for _, name := range anyOf(rnd, mostIslands, ascendingNames(mostIslands)...) {
		w.Weighs = append(w.Weighs, impl.Weigh{Name: name, N: anyNumber(rnd, []int{3, mostWeight}[rnd.Intn(2)])})
	}
	if rnd.Intn(200) == 0 {
		w.Copies = farNumbers[rnd.Intn(len(farNumbers))]
	}
	return w
}

// anyIsland is right but for one of many, and has room for at most so many.
func anyIsland(rnd *rand.Rand, most int) impl.Island {
	all := allLabels("x", "y")
	i := impl.Island{Name: ascendingNames(mostIslands)[rnd.Intn(mostIslands)], Labels: all[rnd.Intn(len(all))], Room: anyNumber(rnd, most)}
	if rnd.Intn(2) == 0 {
		i.Spots = anyOf(rnd, mostSpots, "gold", "lead", "tin", "zinc")
	}
	if rnd.Intn(300) == 0 {
		i.Room = farNumbers[rnd.Intn(len(farNumbers))]
	}
	return i
}

// mayGet is how many copies of w there is room for, where it may come.
func mayGet(w impl.Want, list []impl.Island, left []int) int {
	sum := 0
	for at, i := range list {
		if eligibleByWords(w, i) && weightByWords(w, i.Name) > 0 {
			sum += left[at]
		}
	}
	return min(sum, w.Copies)
}

// Each want gets what there is room for behind those ahead, and the plan of the first ones is the same without the others.
func TestPlansOfManyKinds(t *testing.T) {
	rnd := rand.New(rand.NewSource(10))
	seen := map[string]int{}
	for range 3000 {
		wants, list, most := []impl.Want{}, []impl.Island{}, []int{20, 300, mostCopies}[rnd.Intn(3)]
		for range rnd.Intn(7) {
			wants = append(wants, anyWant(rnd, most))
		}
		for range rnd.Intn(mostIslands + 1) {
			list = append(list, anyIsland(rnd, most))
		}
		plans, left := plansRight(t, wants, list), roomsOf(list)
		for n, shares := range plans {
			may, sum := mayGet(wants[n], list, left), 0
			if !slices.Equal(shares, sharesRight(t, wants[n], list, left)) || !samePlans(plansRight(t, wants[:n], list), plans[:n]) {
				t.Fatalf("%.300v on %.300v: %v: want %d", wants, list, plans, n)
			}
			for at, k := range shares {
				left[at] -= k
				sum += k
			}
			if sum != may {
				t.Fatalf("%.300v on %.300v: %v: want %d gets %d, not %d", wants, list, plans, n, sum, may)
			}
			seen[howMany(sum, wants[n].Copies)]++
		}
		if len(plans) < len(wants) {
			seen["refused"]++
		}
	}
	for _, what := range []string{"all", "some", "nothing", "refused"} {
		if seen[what] < 100 {
			t.Error("too few were tried:", what, seen[what])
		}
	}
}

// howMany tells in a word which part of its copies a want gets.
func howMany(gets, copies int) string {
	switch gets {
	case copies:
		return "all"
	case 0:
		return "nothing"
	}
	return "some"
}

// With MaxWants wants on MaxIslands islands all are planned; with one more nothing is.
func TestPlansOfManyWants(t *testing.T) {
	rnd := rand.New(rand.NewSource(1010))
	for i := range 100 {
		wants, list := []impl.Want{}, []impl.Island{}
		for range mostWants + i%2 {
			wants = append(wants, anyWant(rnd, 900))
			wants[len(wants)-1].Copies = rnd.Intn(900)
		}
		for range mostIslands {
			list = append(list, anyIsland(rnd, 900))
			list[len(list)-1].Room = rnd.Intn(900)
		}
		if got := plansRight(t, wants, list); len(got) != mostWants*(1-i%2) {
			t.Fatal(len(wants), len(got))
		}
	}
}

// What is answered is new memory: it shares none with what was handed in, no two rows share any, and nothing of it is kept.
func TestFitIsNewMemory(t *testing.T) {
	wants, list, left := wantsIn("6: ; gold tin; a*2 | 6: ; gold tin; | 0: ; ; "), islandsIn("a: ; gold; 4 | b: ; ; 4 | c: ; ; 0"), []int{4, 4, 0}
	shares, plans := impl.Shares(wants[0], list, left), impl.Plans(wants, list)
	kept, keptPlans := slices.Clone(shares), [][]int{}
	for _, l := range plans {
		keptPlans = append(keptPlans, slices.Clone(l))
	}
	if !apart([]any{&shares[0], &left[0], &plans[0][0], &plans[1][0], &plans[2][0]}) {
		t.Fatal("a list is shared", shares, plans)
	}
	for n := range plans {
		for i := range plans[n][:cap(plans[n])] {
			plans[n][:cap(plans[n])][i] = 77
		}
		plans[n] = append(plans[n], 78, 79)
		if !slices.Equal(shares, kept) || !samePlans(plans[n+1:], keptPlans[n+1:]) || !slices.Equal(left, []int{4, 4, 0}) {
			t.Fatalf("row %d is shared: %v %v %v", n, shares, plans, left)
		}
	}
	for i := range shares[:cap(shares)] {
		shares[:cap(shares)][i] = 66
	}
	if !slices.Equal(left, []int{4, 4, 0}) || !slices.Equal(impl.Shares(wants[0], list, left), kept) || !samePlans(impl.Plans(wants, list), keptPlans) {
		t.Error("what was answered is kept")
	}
	again, againPlans := impl.Shares(wants[0], list, left), impl.Plans(wants, list)
	left[0], list[0], wants[0] = 99, islandIn("z: ; ; 9"), impl.Want{}
	if !slices.Equal(again, kept) || !samePlans(againPlans, keptPlans) {
		t.Error("what was handed in is shared", again, againPlans)
	}
}

// However long the lists and texts are, every call ends.
func TestVeryLongFits(t *testing.T) {
	far, many := strings.Repeat("a", 1000000), ascendingNames(1000)
	long := slices.Repeat(many, 100)
	islands := []impl.Island{{Name: far}, {Name: "a", Spots: long}, {Name: "a", Spots: []string{far}}, {Name: "a", Labels: slices.Repeat(labels("a=b"), 100000)}, {Name: "a", Labels: labels("a=" + far)}}
	wants := []impl.Want{{Bears: long}, {Bears: []string{far}}, {Weighs: weighsOf(1, long...)}, {Weighs: weighsOf(1, far)}, {Select: slices.Repeat(terms(t, "a"), 100000)}, {Select: []impl.Term{{Kind: impl.TermIn, Key: "a", Values: long}}}}
	for _, i := range islands {
		if impl.IslandOk(i) || eligibleRight(t, impl.Want{}, i) || len(sharesRight(t, impl.Want{}, []impl.Island{i}, []int{5})) != 0 || len(plansRight(t, wantsIn("5: ; ; "), []impl.Island{i})) != 0 {
			t.Errorf("%.60v", i)
		}
	}
	for _, w := range wants {
		if impl.WantOk(w) || eligibleRight(t, w, islandIn("a: ; ; 5")) || len(sharesRight(t, w, islandsIn("a: ; ; 5"), []int{5})) != 0 || len(plansRight(t, []impl.Want{w}, nil)) != 0 {
			t.Errorf("%.60v", w)
		}
	}
	right, one := islandsIn("a: ; ; 5"), wantsIn("5: ; ; ")
	if len(impl.Shares(one[0], slices.Repeat(right, 100000), row(100000, 5)))+len(impl.Shares(one[0], right, row(1000000, 5))) != 0 {
		t.Error("Shares on very many islands")
	}
	if len(impl.Plans(slices.Repeat(one, 100000), right))+len(impl.Plans(one, slices.Repeat(right, 100000)))+len(impl.Plans(slices.Repeat(one, 100000), nil)) != 0 {
		t.Error("Plans of very many")
	}
	if impl.WeightOf(wants[2], "k999") != 1 || impl.WeightOf(impl.Want{Weighs: append(weighsOf(1, long...), impl.Weigh{Name: far, N: 5})}, far) != 5 {
		t.Error("WeightOf of very many")
	}
}
