package tests

import (
	"cmp"
	"fmt"
	"maps"

	"math"
	"math/rand"
	"reflect"
	"slices"
	"strconv"
	"strings"
	"testing"

	"loop.example/g00119/impl"
)

// Promise 11: what a job wants is placed as far as there is room; what ends is there until all have said that they have nothing of it; who is not heard has nothing placed.

const (
	mostJobs  = 20
	mostDead  = 20
	mostRuns  = 80
	leaseSpan = 20
)

// fieldsIn are the words of each part of s; the parts stand between commas.
func fieldsIn(s string) [][]string {
	out := [][]string{}
	for _, part := range strings.Split(s, ",") {
		if words := strings.Fields(part); len(words) > 0 {
			out = append(out, words)
		}
	}
	return out
}

// hubIn reads a hub: its Rev, Next and Now; its jobs, each a Uid, a name, its copies, and ends, if it does; its posts, each a name, its room, when it was heard and what it has seen; its holds, each a Uid, a name, its copies, its runs and the revision at which it was taken away; its dead. All its jobs want nothing but copies, and their Spec is the empty map.
func hubIn(s string) impl.Hub {
	parts := append(strings.Split(s, ";"), "", "", "", "")
	head := strings.Fields(parts[0])
	h := impl.Hub{Rev: numberIn(head[0]), Next: numberIn(head[1]), Now: numberIn(head[2]), Dead: strings.Fields(parts[4])}
	for _, x := range fieldsIn(parts[1]) {
		h.Jobs = append(h.Jobs, impl.Job{Uid: numberIn(x[0]), Name: x[1], Want: impl.Want{Copies: numberIn(x[2])}, Spec: mapOf(""), Ends: len(x) > 3})
	}
	for _, x := range fieldsIn(parts[2]) {
		h.Posts = append(h.Posts, impl.Post{Island: impl.Island{Name: x[0], Room: numberIn(x[1])}, Heard: numberIn(x[2]), Seen: numberIn(x[3])})
	}
	for _, x := range fieldsIn(parts[3]) {
		h.Holds = append(h.Holds, impl.Hold{Uid: numberIn(x[0]), Name: x[1], Copies: numberIn(x[2]), Runs: numberIn(x[3]), Gone: numberIn(x[4])})
	}
	return h
}

// textOfHub is what hubIn reads.
func textOfHub(h impl.Hub) string {
	jobs, posts, holds := []string{}, []string{}, []string{}
	for _, j := range h.Jobs {
		s := strconv.Itoa(j.Uid) + " " + j.Name + " " + strconv.Itoa(j.Want.Copies)
		if j.Ends {
			s += " ends"
		}
		jobs = append(jobs, s)
	}
	for _, p := range h.Posts {
		posts = append(posts, p.Island.Name+numbersText(p.Island.Room, p.Heard, p.Seen))
	}
	for _, x := range h.Holds {
		holds = append(holds, strconv.Itoa(x.Uid)+" "+x.Name+numbersText(x.Copies, x.Runs, x.Gone))
	}
	parts := []string{strings.TrimSpace(numbersText(h.Rev, h.Next, h.Now)), strings.Join(jobs, ", "), strings.Join(posts, ", "), strings.Join(holds, ", "), strings.Join(h.Dead, " ")}
	return strings.Join(parts, "; ")
}

// numbersText has a blank ahead of each.
func numbersText(list ...int) string {
	s := ""
	for _, n := range list {
		s += " " + strconv.Itoa(n)
	}
	return s
}

// deed is one of the calls of the hub; what it does not take stays empty. N is copies, now or rev.
type deed struct {
	What    string
	Name    string
	N       int
	Want    impl.Want
	Spec    impl.Value
	Patches []impl.Over
	Island  impl.Island
	Runs    []impl.Run
}

func submit(name string, want impl.Want, spec impl.Value, patches ...impl.Over) deed {
	return deed{What: "submit", Name: name, Want: want, Spec: spec, Patches: patches}
}

func join(i impl.Island) deed { return deed{What: "join", Island: i} }

func report(name string, rev int, runs ...impl.Run) deed {
	return deed{What: "report", Name: name, N: rev, Runs: runs}
}

// deedIn reads submit or resize, a name and copies; join, a name and room; cancel or expel and a name; clock and a time; report, a name, a revision and runs: a Uid, x and how many.
func deedIn(s string) deed {
	words := append(strings.Fields(s), "", "")
	d, n := deed{What: words[0], Name: words[1]}, numberIn(words[2])
	switch d.What {
	case "submit":
		return submit(d.Name, impl.Want{Copies: n}, mapOf(""))
	case "join":
		return join(impl.Island{Name: d.Name, Room: n})
	case "clock":
		return deed{What: d.What, N: numberIn(d.Name)}
	case "report":
		return report(d.Name, n, runsIn(words[3:])...)
	}
	d.N = n
	return d
}

func runsIn(words []string) []impl.Run {
	out := []impl.Run{}
	for _, s := range words {
		if uid, n, ok := strings.Cut(s, "x"); ok {
			out = append(out, impl.Run{Uid: numberIn(uid), N: numberIn(n)})
		}
	}
	return out
}

// String tells what d is, as far as it is short.
func (d deed) String() string {
	type plain deed
	s := fmt.Sprintf("%+v", plain(d))
	return s[:min(len(s), 300)]
}

// at asks the program.
func (d deed) at(h impl.Hub) (impl.Hub, int) {
	switch d.What {
	case "submit":
		return impl.Submit(h, d.Name, d.Want, d.Spec, d.Patches)
	case "resize":
		return impl.Resize(h, d.Name, d.N)
	case "cancel":
		return impl.Cancel(h, d.Name)
	case "join":
		return impl.Join(h, d.Island)
	case "expel":
		return impl.Expel(h, d.Name)
	case "clock":
		return impl.Clock(h, d.N)
	}
	return impl.Report(h, d.Name, d.N, d.Runs)
}

// The document's words once more.

func isSubmission(name string, want impl.Want, spec impl.Value, patches []impl.Over) bool {
	names := []string{}
	for _, x := range patches {
		if _, failed := patchedByWords(spec, x.Ops); failed >= 0 {
			return false
		}
		names = append(names, x.Island)
	}
	return isName.MatchString(name) && isWant(want) && isValue(spec) && len(names) <= 12 && isRow(names)
}

func areJobs(h impl.Hub) bool {
	uids, names := []int{}, map[string]bool{}
	for _, j := range h.Jobs {
		if j.Uid < 1 || j.Uid > h.Next-1 || !isSubmission(j.Name, j.Want, j.Spec, j.Patches) {
			return false
		}
		uids, names[j.Name] = append(uids, j.Uid), true
	}
	return len(h.Jobs) <= 20 && len(names) == len(h.Jobs) && slices.Equal(slices.Compact(slices.Sorted(slices.Values(uids))), uids)
}

func arePosts(h impl.Hub) bool {
	names := []string{}
	for _, p := range h.Posts {
		if !isIsland(p.Island) || p.Heard < 0 || p.Heard > h.Now || p.Seen < 0 || p.Seen > h.Rev {
			return false
		}
		for _, name := range h.Dead {
			if name == p.Island.Name {
				return false
			}
		}
		names = append(names, p.Island.Name)
	}
	return len(names) <= 12 && isRow(names)
}

func areHolds(h impl.Hub) bool {
	jobs, posts := map[int]bool{}, map[string]bool{}
	for _, j := range h.Jobs {
		jobs[j.Uid] = true
	}
	for _, p := range h.Posts {
		posts[p.Island.Name] = true
	}
	for i, x := range h.Holds {
		if i > 0 && (h.Holds[i-1].Uid > x.Uid || h.Holds[i-1].Uid == x.Uid && h.Holds[i-1].Name >= x.Name) {
			return false
		}
		wanted := x.Gone == 0 && 1 <= x.Copies && x.Copies <= 10000
		taken := 0 < x.Gone && x.Gone <= h.Rev && x.Copies == 0
		if !jobs[x.Uid] || !posts[x.Name] || !wanted && !taken || x.Runs < 0 || x.Runs > 10000 {
			return false
		}
	}
	return true
}

func isHub(h impl.Hub) bool {
	numbers := 0 <= h.Rev && h.Rev <= 1000000 && 1 <= h.Next && h.Next <= 1000000 && 0 <= h.Now && h.Now <= 1000000
	return numbers && len(h.Dead) <= 20 && isRow(h.Dead) && areJobs(h) && arePosts(h) && areHolds(h)
}

func areRuns(list []impl.Run) bool {
	for i, x := range list {
		if x.Uid < 1 || x.Uid > 1000000 || x.N < 0 || x.N > 10000 || i > 0 && list[i-1].Uid >= x.Uid {
			return false
		}
	}
	return len(list) <= 80
}

func (d deed) isRight(h impl.Hub) bool {
	switch d.What {
	case "submit":
		return isSubmission(d.Name, d.Want, d.Spec, d.Patches)
	case "join":
		return isIsland(d.Island)
	case "clock":
		return d.N > h.Now && d.N <= 1000000
	}
	return isName.MatchString(d.Name) && (d.What != "resize" || 0 <= d.N && d.N <= 10000) && areRuns(d.Runs)
}

// byWords is what a deed must answer.
func (d deed) byWords(h impl.Hub) (impl.Hub, int) {
	if !isHub(h) || !d.isRight(h) {
		return h, impl.HubForm
	}
	if h.Rev == 1000000 || h.Next == 1000000 {
		return h, impl.HubFull
	}
	then, code := d.doneTo(plainCopy(h))
	if code != impl.HubGood {
		return h, code
	}
	then.Rev++
	return plannedByWords(then), impl.HubGood
}

// doneTo is what a deed makes of h, which it may change, ahead of planning.
func (d deed) doneTo(h impl.Hub) (impl.Hub, int) {
	job, post, dead := -1, -1, slices.Contains(h.Dead, d.Island.Name)
	for i, j := range h.Jobs {
		if j.Name == d.Name {
			job = i
		}
	}
	for i, p := range h.Posts {
		if p.Island.Name == d.Name+d.Island.Name {
			post = i
		}
	}
	switch d.What {
	case "submit":
		if job >= 0 {
			return h, impl.HubThere
		}
		if len(h.Jobs) == 20 {
			return h, impl.HubFull
		}
		h.Jobs = append(h.Jobs, impl.Job{Uid: h.Next, Name: d.Name, Want: d.Want, Spec: d.Spec, Patches: d.Patches})
		h.Next++
	case "resize", "cancel":
		if job < 0 || h.Jobs[job].Ends {
			return h, impl.HubNone
		}
		if d.What == "cancel" {
			h.Jobs[job].Ends = true
		} else {
			h.Jobs[job].Want.Copies = d.N
		}
	case "join":
		if dead {
			return h, impl.HubDead
		}
		if post >= 0 {
			return h, impl.HubThere
		}
		if len(h.Posts) == 12 {
			return h, impl.HubFull
		}
		h.Posts = append(h.Posts, impl.Post{Island: d.Island, Heard: h.Now})
		slices.SortFunc(h.Posts, func(a, b impl.Post) int { return cmp.Compare(a.Island.Name, b.Island.Name) })
	case "clock":
		h.Now = d.N
	default:
		if post < 0 {
			return h, impl.HubNone
		}
		return d.doneToPost(h, post)
	}
	return h, impl.HubGood
}

// doneToPost is what an expel or a report makes of h.
func (d deed) doneToPost(h impl.Hub, post int) (impl.Hub, int) {
	if d.What == "expel" {
		if len(h.Dead) == 20 {
			return h, impl.HubFull
		}
		h.Dead = slices.Sorted(slices.Values(append(h.Dead, d.Name)))
		h.Posts = append(h.Posts[:post:post], h.Posts[post+1:]...)
	} else if d.N < 0 || d.N > h.Rev {
		return h, impl.HubForm
	}
	runs := map[int]int{}
	for _, r := range d.Runs {
		runs[r.Uid] = r.N
	}
	kept := []impl.Hold{}
	for _, x := range h.Holds {
		_, told := runs[x.Uid]
		switch {
		case x.Name != d.Name:
			kept = append(kept, x)
		case d.What == "expel" || x.Gone > 0 && d.N >= x.Gone && !told:
		case d.N >= h.Posts[post].Seen:
			x.Runs = runs[x.Uid]
			kept = append(kept, x)
		default:
			kept = append(kept, x)
		}
	}
	h.Holds = kept
	if d.What == "report" {
		h.Posts[post].Heard, h.Posts[post].Seen = h.Now, max(d.N, h.Posts[post].Seen)
	}
	return h, impl.HubGood
}

// wellOf are the islands of the posts that were heard not more than the span before Now.
func wellOf(h impl.Hub) []impl.Island {
	out := []impl.Island{}
	for _, p := range h.Posts {
		if h.Now <= p.Heard+20 {
			out = append(out, p.Island)
		}
	}
	return out
}

// spot is one job on one island.
type spot struct {
	uid  int
	name string
}

func plannedByWords(h impl.Hub) impl.Hub {
	well, wants, uids := wellOf(h), []impl.Want{}, []int{}
	for _, j := range h.Jobs {
		if !j.Ends {
			wants, uids = append(wants, j.Want), append(uids, j.Uid)
		}
	}
	holds := map[spot]impl.Hold{}
	for _, x := range h.Holds {
		holds[spot{x.Uid, x.Name}] = x
	}
	given := map[spot]bool{}
	for i, shares := range plansByWords(wants, well) {
		for at, n := range shares {
			if at := (spot{uids[i], well[at].Name}); n > 0 {
				holds[at] = impl.Hold{Uid: at.uid, Name: at.name, Copies: n, Runs: holds[at].Runs}
				given[at] = true
			}
		}
	}
	h.Holds = nil
	held := map[int]bool{}
	for at, x := range holds {
		if !given[at] && x.Gone == 0 {
			x.Copies, x.Gone = 0, h.Rev
		}
		h.Holds = append(h.Holds, x)
		held[at.uid] = true
	}
	slices.SortFunc(h.Holds, func(a, b impl.Hold) int {
		return cmp.Or(cmp.Compare(a.Uid, b.Uid), cmp.Compare(a.Name, b.Name))
	})
	jobs := []impl.Job{}
	for _, j := range h.Jobs {
		if !j.Ends || held[j.Uid] {
			jobs = append(jobs, j)
		}
	}
	h.Jobs = jobs
	return h
}

// doneRight asks a deed for what the words say, and the promise, and tells the answer. What is handed in has room behind each of its lists.
func doneRight(t *testing.T, h impl.Hub, d deed) (impl.Hub, int) {
	t.Helper()
	want, wantCode := d.byWords(h)
	givenH, givenD := roomyCopy(h), roomyCopy(d)
	keptH, keptD := wholeCopy(givenH), wholeCopy(givenD)
	got, code := givenD.at(givenH)
	if code != wantCode || !sameAll(got, want) {
		t.Fatalf("%s of %s: %d %s, not %d %s", d, textOfHub(h), code, textOfHub(got), wantCode, textOfHub(want))
	}
	if !reflect.DeepEqual(wholeCopy(givenH), keptH) || !reflect.DeepEqual(wholeCopy(givenD), keptD) {
		t.Fatalf("%s of %s: an argument was changed", d, textOfHub(h))
	}
	lists := memoryOf(got)
	if !allApart(lists) || sharesAny(lists, memoryOf(givenH)) || sharesAny(lists, memoryOf(givenD)) {
		t.Fatalf("%s of %s: a list is shared", d, textOfHub(h))
	}
	if code == impl.HubGood {
		keepsPromise11(t, h, d, got)
	} else if !sameAll(got, h) {
		t.Fatalf("%s of %s: %d, and it became %s", d, textOfHub(h), code, textOfHub(got))
	}
	return got, code
}

// keepsPromise11 asks what must hold behind each deed that went, without planning once more.
func keepsPromise11(t *testing.T, before impl.Hub, d deed, h impl.Hub) {
	t.Helper()
	newUids := map[string]int{"submit": 1}
	if !impl.HubOk(h) || h.Rev != before.Rev+1 || h.Next != before.Next+newUids[d.What] {
		t.Fatalf("%s of %s: %v: %s", d, textOfHub(before), impl.HubOk(h), textOfHub(h))
	}
	well, placed, there := wellOf(h), map[spot]int{}, map[spot]bool{}
	for _, x := range h.Holds {
		there[spot{x.Uid, x.Name}] = true
		there[spot{uid: x.Uid}] = true
		if x.Gone == 0 {
			placed[spot{x.Uid, x.Name}] = x.Copies
		}
	}
	left := roomsOf(well)
	for _, j := range h.Jobs {
		if j.Ends && !there[spot{uid: j.Uid}] {
			t.Fatalf("%s of %s: nobody holds %s: %s", d, textOfHub(before), j.Name, textOfHub(h))
		}
		if j.Ends {
			continue
		}
		may, has := mayGet(j.Want, well, left), 0
		for at, i := range well {
			n := placed[spot{j.Uid, i.Name}]
			has, left[at] = has+n, left[at]-n
			delete(placed, spot{j.Uid, i.Name})
			if left[at] < 0 {
				t.Fatalf("%s of %s: more on %s than it has room for: %s", d, textOfHub(before), i.Name, textOfHub(h))
			}
		}
		if has != may {
			t.Fatalf("%s of %s: %s has %d, not %d: %s", d, textOfHub(before), j.Name, has, may, textOfHub(h))
		}
	}
	if len(placed) > 0 {
		t.Fatalf("%s of %s: what ends or was not heard has %v: %s", d, textOfHub(before), placed, textOfHub(h))
	}
	for _, x := range before.Holds {
		if !there[spot{x.Uid, x.Name}] && !d.mayLetGo(x) {
			t.Fatalf("%s of %s: %d is no longer on %s: %s", d, textOfHub(before), x.Uid, x.Name, textOfHub(h))
		}
	}
}

// mayLetGo tells whether a hold may be gone behind d.
func (d deed) mayLetGo(x impl.Hold) bool {
	told := slices.ContainsFunc(d.Runs, func(r impl.Run) bool { return r.Uid == x.Uid })
	return d.Name == x.Name && (d.What == "expel" || d.What == "report" && x.Gone > 0 && d.N >= x.Gone && !told)
}

func TestHubConstants(t *testing.T) {
	if impl.MaxJobs != mostJobs || impl.LeaseSpan != leaseSpan {
		t.Error("the constants of chapter 11")
	}
	if impl.HubGood != 0 || impl.HubForm != 1 || impl.HubThere != 2 || impl.HubNone != 3 || impl.HubFull != 4 || impl.HubDead != 5 {
		t.Error("the codes of chapter 11")
	}
}

func TestHubNew(t *testing.T) {
	h := impl.HubNew()
	if textOfHub(h) != "0 1 0; ; ; ; " || !impl.HubOk(h) {
		t.Error(h)
	}
	if impl.HubOk(impl.Hub{}) {
		t.Error("the zero hub is right")
	}
}

// usual has a job that is patched, one that ends and one that is small; two islands that are well, one that was not heard for long, and two that were expelled. It is as planned.
func usual() impl.Hub {
	h := hubIn("40 7 30; 1 web 6, 3 db 4 ends, 5 job 2; a 5 30 40, b 3 10 30, c 9 9 12; 1 a 3 3 0, 1 b 3 1 0, 1 c 0 3 31, 3 a 0 2 38, 3 c 0 1 31, 5 a 2 0 0; x y")
	h.Jobs[0].Spec = webSpec()
	h.Jobs[0].Patches = []impl.Over{{Island: "a", Ops: []impl.Op{set("image", textOf("edge")), need("ports/0", numOf(80))}}, {Island: "z", Ops: []impl.Op{drop("ports")}}}
	for i := range h.Jobs {
		h.Jobs[i].Want.Bears, h.Jobs[i].Want.Weighs = []string{"lead", "tin"}, weighsOf(2, "a", "b")
		h.Jobs[i].Want.Select, _ = selectorOfText("zone in (east west),!old")
	}
	for i := range h.Posts {
		h.Posts[i].Island.Labels, h.Posts[i].Island.Spots = labels("app=web", "zone=east"), []string{"tin"}
	}
	return h
}

func webSpec() impl.Value { return valueIn(`{image:"web",ports:[80]}`) }

// hubWith is a copy of usual that was changed.
func hubWith(change func(h *impl.Hub)) impl.Hub {
	h := usual()
	change(&h)
	return h
}

// crowded has so many jobs, posts and dead, and each job on each island.
func crowded(jobs, posts, dead int) impl.Hub {
	h := impl.Hub{Rev: 900, Next: 900, Now: 50}
	for i, name := range ascendingNames(jobs) {
		h.Jobs = append(h.Jobs, impl.Job{Uid: 10 + i, Name: name, Want: impl.Want{Copies: 2}, Spec: mapOf("")})
		for _, name := range ascendingNames(posts) {
			h.Holds = append(h.Holds, impl.Hold{Uid: 10 + i, Name: name, Copies: 1})
		}
	}
	for _, name := range ascendingNames(posts) {
		h.Posts = append(h.Posts, impl.Post{Island: impl.Island{Name: name, Room: 20}, Heard: 40})
	}
	for _, name := range ascendingNames(dead) {
		h.Dead = append(h.Dead, "x-"+name)
	}
	return h
}

// oversOf are patches of nothing for these islands.
func oversOf(names ...string) []impl.Over {
	out := []impl.Over{}
	for _, name := range names {
		out = append(out, impl.Over{Island: name})
	}
	return out
}

// rightPatches can be done on webSpec.
func rightPatches() map[string][]impl.Over {
	out := map[string][]impl.Over{
		"none": nil, "an empty list": {}, "one of nothing": oversOf("a"), "MaxIslands": oversOf(ascendingNames(mostIslands)...), "names in the order of text": oversOf("a", "a-b", "a10", "a9", longName),
		"MaxOps":             {{Island: "a", Ops: slices.Repeat([]impl.Op{set("image", numOf(1))}, impl.MaxOps)}},
		"one behind another": {{Island: "a", Ops: []impl.Op{set("b", mapOf("")), set("b/c", numOf(1)), need("b", mapOf("c", numOf(1))), drop("b")}}},
		"each on the Spec":   {{Island: "a", Ops: []impl.Op{drop("image")}}, {Island: "b", Ops: []impl.Op{drop("image")}}, {Island: "c", Ops: []impl.Op{need("image", textOf("web"))}}},
	}
	for _, x := range rightValues() {
		if sizeOf(x.v) < 200 && depthOf(x.v) < 6 {
			out["setting "+x.s] = []impl.Over{{Island: "a", Ops: []impl.Op{set("image", x.v)}}}
		}
	}
	return out
}

// wrongPatches are not right, or can not be done on webSpec, by what is wrong with them.
func wrongPatches() map[string][]impl.Over {
	out := map[string][]impl.Over{
		"the zero one": {{}}, "out of order": oversOf("b", "a"), "one island twice": oversOf("a", "a"), "twice with other ops": {{Island: "a", Ops: []impl.Op{drop("image")}}, {Island: "a", Ops: []impl.Op{drop("ports")}}},
		"one more than MaxOps": {{Island: "a", Ops: slices.Repeat([]impl.Op{set("image", numOf(1))}, impl.MaxOps+1)}},
	}
	for n, l := range wrongRows(mostIslands) {
		out["islands: "+strconv.Itoa(n)] = oversOf(l...)
	}
	for why, op := range wrongOps() {
		out["an op: "+why] = []impl.Over{{Island: "a", Ops: []impl.Op{op}}}
	}
	notDone := [][]impl.Op{{drop("none")}, {drop("image/a")}, {need("image", numOf(1))}, {need("none", numOf(1))}, {set("none/a", numOf(1))}, {set("ports/5", numOf(1))}, {drop("ports"), drop("ports")}, {drop("image"), need("image", textOf("web"))}, {set("a", numbered(200, numOf(1))), set("b", numbered(200, numOf(1)))}}
	for n, ops := range notDone {
		out["can not be done: "+strconv.Itoa(n)] = []impl.Over{{Island: "a", Ops: ops}}
		out["the last can not be done: "+strconv.Itoa(n)] = append(oversOf("a", "b"), impl.Over{Island: "c", Ops: ops})
		out["the first can not be done: "+strconv.Itoa(n)] = append([]impl.Over{{Island: "a", Ops: ops}}, oversOf("b", "c")...)
	}
	return out
}

// farTimes are wrong as Rev, Next and Now.
var farTimes = []int{-1, -2, mostRev + 1, mostRev + 2, 1 << 31, 1 << 32, 1<<32 + 31, 1 << 62, math.MaxInt, math.MinInt, math.MinInt + 1}

// rightHubs are as told, by what they are there for.
func rightHubs() map[string]impl.Hub {
	out := map[string]impl.Hub{
		"new": {Next: 1}, "usual": usual(), "empty lists": {Next: 1, Jobs: []impl.Job{}, Posts: []impl.Post{}, Holds: []impl.Hold{}, Dead: []string{}}, "all at their limits": crowded(mostJobs, mostIslands, mostDead), "one less of all": crowded(mostJobs-1, mostIslands-1, mostDead-1),
		"the greatest Rev": hubWith(func(h *impl.Hub) { h.Rev = mostRev }), "the greatest Next": hubWith(func(h *impl.Hub) { h.Next = mostRev }), "the greatest Now": hubWith(func(h *impl.Hub) { h.Now = mostClock }), "the greatest all": {Rev: mostRev, Next: mostRev, Now: mostClock},
		"no job holds":              hubWith(func(h *impl.Hub) { h.Holds = nil }),
		"no posts":                  hubWith(func(h *impl.Hub) { h.Holds, h.Posts = nil, nil }),
		"no jobs":                   hubWith(func(h *impl.Hub) { h.Holds, h.Jobs = nil, nil }),
		"no dead":                   hubWith(func(h *impl.Hub) { h.Dead = nil }),
		"the last Uid":              hubWith(func(h *impl.Hub) { h.Holds, h.Jobs[2].Uid = nil, h.Next-1 }),
		"the first Uid of any":      hubWith(func(h *impl.Hub) { h.Next = 6 }),
		"more placed than wanted":   hubWith(func(h *impl.Hub) { h.Holds[0].Copies = 99 }),
		"what ends is placed":       hubWith(func(h *impl.Hub) { h.Holds[3].Copies, h.Holds[3].Gone = 5, 0 }),
		"who is not heard has":      hubWith(func(h *impl.Hub) { h.Holds[2].Copies, h.Holds[2].Gone = 5, 0 }),
		"what ends has no hold":     hubWith(func(h *impl.Hub) { h.Holds = h.Holds[:3] }),
		"all end":                   hubWith(func(h *impl.Hub) { h.Jobs[0].Ends, h.Jobs[2].Ends = true, true }),
		"all is gone":               hubIn("9 3 0; 1 a 5, 2 b 5; a 5 0 0, b 5 0 9; 1 a 0 0 1, 1 b 0 5 9, 2 a 0 10000 8; "),
		"names in order of bytes":   hubIn("9 5 0; 1 z 5, 2 a 5; a 5 0 0, a-b 5 0 0, a0 5 0 0, a10 5 0 0, a9 5 0 0; 1 a 1 0 0, 1 a-b 1 0 0, 1 a0 1 0 0, 1 a10 1 0 0, 1 a9 1 0 0, 2 a 1 0 0; b b-b b0"),
		"a job as an island":        hubIn("9 5 0; 1 a 5; a 5 0 0; 1 a 5 0 0; web"),
		"a dead that a job is":      hubIn("9 5 0; 1 a 5; b 5 0 0; 1 b 5 0 0; a"),
		"a Uid under Holds of many": hubIn("9 12 0; 9 a 1, 10 b 1; a 5 0 0, b 5 0 0; 9 a 1 0 0, 9 b 1 0 0, 10 a 1 0 0; "),
	}
	for why, w := range rightWants() {
		out["Want: "+why] = hubWith(func(h *impl.Hub) { h.Jobs[1].Want = w })
	}
	for why, i := range rightIslands() {
		i.Name = "c"
		out["Island: "+why] = hubWith(func(h *impl.Hub) { h.Posts[2].Island = i })
	}
	for _, x := range rightValues() {
		out["Spec "+x.s] = hubWith(func(h *impl.Hub) { h.Jobs[2].Spec = x.v })
	}
	for why, l := range rightPatches() {
		out["Patches: "+why] = hubWith(func(h *impl.Hub) { h.Jobs[0].Patches = l })
	}
	return out
}

// wrongHubs are not as told, by what is wrong with them.
func wrongHubs() map[string]impl.Hub {
	out := map[string]impl.Hub{
		"the zero hub": {}, "a Next of 0": hubWith(func(h *impl.Hub) { h.Next = 0 }), "nothing, and a Next of 0": {Rev: 5}, "one more than MaxJobs": crowded(mostJobs+1, 1, 1), "one more than MaxIslands": crowded(1, mostIslands+1, 1), "one more dead": crowded(1, 1, mostDead+1), "far more jobs": crowded(800, 1, 1), "far more posts": crowded(1, 900, 1), "far more dead": crowded(1, 1, 900),
		"jobs out of order":           hubWith(func(h *impl.Hub) { h.Jobs[1], h.Jobs[2] = h.Jobs[2], h.Jobs[1] }),
		"jobs backward":               hubWith(func(h *impl.Hub) { slices.Reverse(h.Jobs) }),
		"one job twice":               hubWith(func(h *impl.Hub) { h.Jobs = append(h.Jobs, h.Jobs[2]) }),
		"one Uid twice":               hubWith(func(h *impl.Hub) { h.Jobs[1].Uid, h.Holds = 1, nil }),
		"one Uid twice at last":       hubWith(func(h *impl.Hub) { h.Jobs[1].Uid, h.Holds = 5, nil }),
		"one name twice":              hubWith(func(h *impl.Hub) { h.Jobs[1].Name = "web" }),
		"one name twice, far apart":   hubWith(func(h *impl.Hub) { h.Jobs[2].Name = "web" }),
		"the name of one that ends":   hubWith(func(h *impl.Hub) { h.Jobs[2].Name = "db" }),
		"the last Uid is Next":        hubWith(func(h *impl.Hub) { h.Next = 5 }),
		"Next of 1, with jobs":        hubWith(func(h *impl.Hub) { h.Next = 1 }),
		"posts out of order":          hubWith(func(h *impl.Hub) { h.Posts[0], h.Posts[1] = h.Posts[1], h.Posts[0] }),
		"posts out of order, no hold": hubWith(func(h *impl.Hub) { h.Posts[1], h.Posts[2], h.Holds = h.Posts[2], h.Posts[1], nil }),
		"one post twice":              hubWith(func(h *impl.Hub) { h.Posts = append(h.Posts, h.Posts[2]) }),
		"one island twice":            hubWith(func(h *impl.Hub) { h.Posts[1].Island.Name, h.Holds = "a", nil }),
		"a Now below Heard":           hubWith(func(h *impl.Hub) { h.Now = 29 }),
		"a Rev below Seen":            hubWith(func(h *impl.Hub) { h.Rev = 39 }),
		"a Rev below Gone":            hubWith(func(h *impl.Hub) { h.Rev, h.Posts[0].Seen = 37, 0 }),
		"holds of no job":             hubWith(func(h *impl.Hub) { h.Jobs = nil }),
		"holds of no post":            hubWith(func(h *impl.Hub) { h.Posts = nil }),
		"a hold of the last post":     hubWith(func(h *impl.Hub) { h.Posts = h.Posts[:2] }),
		"a hold of the last job":      hubWith(func(h *impl.Hub) { h.Jobs = h.Jobs[:2] }),
		"a hold of the first job":     hubWith(func(h *impl.Hub) { h.Jobs = h.Jobs[1:] }),
		"one hold twice":              hubWith(func(h *impl.Hub) { h.Holds = slices.Insert(h.Holds, 1, h.Holds[0]) }),
		"one hold twice at last":      hubWith(func(h *impl.Hub) { h.Holds = append(h.Holds, h.Holds[5]) }),
		"the holds twice":             hubWith(func(h *impl.Hub) { h.Holds = slices.Repeat(h.Holds, 2) }),
		"wanted and taken away":       hubWith(func(h *impl.Hub) { h.Holds[1] = impl.Hold{Uid: 1, Name: "a", Gone: 5} }),
		"holds out of order by name":  hubWith(func(h *impl.Hub) { h.Holds[0], h.Holds[1] = h.Holds[1], h.Holds[0] }),
		"holds out of order by Uid":   hubWith(func(h *impl.Hub) { h.Holds[2], h.Holds[3] = h.Holds[3], h.Holds[2] }),
		"the last hold ahead":         hubWith(func(h *impl.Hub) { h.Holds[4], h.Holds[5] = h.Holds[5], h.Holds[4] }),
		"holds by name, then Uid":     hubIn("9 5 0; 1 web 5, 2 db 5; a 5 0 0, b 5 0 0; 1 a 1 0 0, 2 a 1 0 0, 1 b 1 0 0, 2 b 1 0 0; "),
		"holds by Uid as text":        hubIn("9 12 0; 9 a 1, 10 b 1; a 5 0 0; 10 a 1 0 0, 9 a 1 0 0; "),
		"jobs by Uid as text":         hubIn("9 12 0; 10 b 1, 9 a 1; a 5 0 0; ; "),
		"posts in order of numbers":   hubIn("9 12 0; ; a9 5 0 0, a10 5 0 0; ; "),
		"far more holds":              hubWith(func(h *impl.Hub) { h.Holds = slices.Repeat(h.Holds, 10000) }),
		"the zero job":                hubWith(func(h *impl.Hub) { h.Jobs[1] = impl.Job{} }),
		"the zero job alone":          {Next: 5, Jobs: []impl.Job{{}}},
		"the zero post":               hubWith(func(h *impl.Hub) { h.Posts[2], h.Holds = impl.Post{}, nil }),
		"the zero post alone":         {Next: 5, Posts: []impl.Post{{}}},
		"the zero hold":               hubWith(func(h *impl.Hub) { h.Holds[0] = impl.Hold{} }),
		"the zero hold alone":         {Next: 5, Holds: []impl.Hold{{}}},
	}
	for _, n := range farTimes {
		s := strconv.Itoa(n)
		out["a Rev of "+s] = hubWith(func(h *impl.Hub) { h.Rev = n })
		out["a Next of "+s] = hubWith(func(h *impl.Hub) { h.Next = n })
		out["a Now of "+s] = hubWith(func(h *impl.Hub) { h.Now = n })
		out["nothing, and a Rev of "+s], out["nothing, and a Next of "+s], out["nothing, and a Now of "+s] = impl.Hub{Rev: n, Next: 1}, impl.Hub{Next: n}, impl.Hub{Now: n, Next: 1}
	}
	for why, spoil := range wrongJobs() {
		for i := range 3 {
			out["job "+strconv.Itoa(i)+": "+why] = hubWith(func(h *impl.Hub) { spoil(&h.Jobs[i]) })
		}
	}
	for why, spoil := range wrongPosts() {
		for i := range 3 {
			out["post "+strconv.Itoa(i)+": "+why] = hubWith(func(h *impl.Hub) { spoil(&h.Posts[i]) })
			out["post "+strconv.Itoa(i)+", no holds: "+why] = hubWith(func(h *impl.Hub) { spoil(&h.Posts[i]); h.Holds = nil })
		}
	}
	for why, spoil := range wrongHolds() {
		for i := range 6 {
			out["hold "+strconv.Itoa(i)+": "+why] = hubWith(func(h *impl.Hub) { spoil(&h.Holds[i]) })
			out["hold "+strconv.Itoa(i)+" alone: "+why] = hubWith(func(h *impl.Hub) { spoil(&h.Holds[i]); h.Holds = h.Holds[i : i+1] })
		}
	}
	for n, l := range wrongRows(mostDead) {
		out["dead: "+strconv.Itoa(n)] = impl.Hub{Next: 1, Dead: l}
	}
	for _, name := range []string{"a", "b", "c"} {
		out["a post is dead: "+name] = hubWith(func(h *impl.Hub) { h.Dead = []string{name, "x"} })
		out["a post is dead, no holds: "+name] = hubWith(func(h *impl.Hub) { h.Dead, h.Holds = []string{"0", name}, nil })
	}
	return out
}

// wrongJobs make a job of usual wrong.
func wrongJobs() map[string]func(j *impl.Job) {
	out := map[string]func(j *impl.Job){"a Uid of Next": func(j *impl.Job) { j.Uid = 7 }, "a Uid above Next": func(j *impl.Job) { j.Uid = 8 }, "a Uid of 0": func(j *impl.Job) { j.Uid = 0 }}
	for _, n := range farTimes {
		out["a Uid of "+strconv.Itoa(n)] = func(j *impl.Job) { j.Uid = n }
	}
	for _, s := range wrongNames {
		out["the name "+s] = func(j *impl.Job) { j.Name = s }
	}
	for why, w := range wrongWants() {
		out["Want: "+why] = func(j *impl.Job) { j.Want = w }
	}
	for why, v := range wrongValues() {
		out["Spec: "+why] = func(j *impl.Job) { j.Spec, j.Patches = v, nil }
	}
	for why, l := range wrongPatches() {
		out["Patches: "+why] = func(j *impl.Job) { j.Spec, j.Patches = webSpec(), l }
	}
	out["a patch of another Spec"] = func(j *impl.Job) {
		j.Spec, j.Patches = mapOf(""), []impl.Over{{Island: "a", Ops: []impl.Op{drop("image")}}}
	}
	return out
}

// wrongPosts make a post of usual wrong.
func wrongPosts() map[string]func(p *impl.Post) {
	out := map[string]func(p *impl.Post){"heard just ahead of Now": func(p *impl.Post) { p.Heard = 31 }, "seen just ahead of Rev": func(p *impl.Post) { p.Seen = 41 }}
	for _, n := range farTimes {
		out["heard at "+strconv.Itoa(n)] = func(p *impl.Post) { p.Heard = n }
		out["seen of "+strconv.Itoa(n)] = func(p *impl.Post) { p.Seen = n }
	}
	for why, i := range wrongIslands() {
		out["Island: "+why] = func(p *impl.Post) {
			name := p.Island.Name
			p.Island = i
			// It stands in order, so that nothing else is wrong.
			if isName.MatchString(i.Name) {
				p.Island.Name = name
			}
		}
	}
	return out
}

// wrongHolds make a hold of usual wrong.
func wrongHolds() map[string]func(x *impl.Hold) {
	out := map[string]func(x *impl.Hold){
		"neither wanted nor taken away": func(x *impl.Hold) { x.Copies, x.Gone = 0, 0 }, "wanted and taken away": func(x *impl.Hold) { x.Copies, x.Gone = 1, 40 },
		"most wanted and taken away": func(x *impl.Hold) { x.Copies, x.Gone = mostCopies, 1 }, "taken away just ahead of Rev": func(x *impl.Hold) { x.Copies, x.Gone = 0, 41 },
	}
	for _, n := range []int{0, -1, 2, 4, 6, 7, 8, 1 << 32, 1<<32 + 1, 1<<32 + 3, 1<<32 + 5, math.MaxInt, math.MinInt} {
		out["the Uid "+strconv.Itoa(n)] = func(x *impl.Hold) { x.Uid = n }
	}
	for _, s := range append([]string{"x", "y", "d", "0", "z", "aa", "web", longName}, wrongNames...) {
		out["the name "+s] = func(x *impl.Hold) { x.Name = s }
	}
	for _, n := range farNumbers {
		s := strconv.Itoa(n)
		out["copies of "+s] = func(x *impl.Hold) { x.Copies, x.Gone = n, 0 }
		out["taken away, and copies of "+s] = func(x *impl.Hold) { x.Copies, x.Gone = n, 40 }
		out["runs of "+s] = func(x *impl.Hold) { x.Runs = n }
	}
	for _, n := range farTimes {
		out["gone at "+strconv.Itoa(n)] = func(x *impl.Hold) { x.Copies, x.Gone = 0, n }
		out["wanted, gone at "+strconv.Itoa(n)] = func(x *impl.Hold) { x.Copies, x.Gone = 1, n }
	}
	return out
}

func TestHubOk(t *testing.T) {
	tellsApart(t, rightHubs(), wrongHubs(), isHub, impl.HubOk)
}

// Each number is accepted from the least on up to the most, and neither below nor above.
func TestHubNumbersAtTheLimits(t *testing.T) {
	of := func(text string, change func(h *impl.Hub, n int)) func(n int) impl.Hub {
		return func(n int) impl.Hub {
			h := hubIn(text)
			change(&h, n)
			return h
		}
	}
	const one = "40 7 30; 5 web 6; a 5 0 0; 5 a 3 0 0; x"
	const gone = "40 7 30; 5 web 6; a 5 0 0; 5 a 0 0 9; x"
	for what, x := range map[string]struct {
		least, most int
		hub         func(n int) impl.Hub
	}{
		"Rev":               {0, mostRev, of(one, func(h *impl.Hub, n int) { h.Rev = n })},
		"Rev behind a Gone": {9, mostRev, of(gone, func(h *impl.Hub, n int) { h.Rev = n })},
		"Next":              {1, mostRev, of("40 7 30", func(h *impl.Hub, n int) { h.Next = n })},
		"Next behind a Uid": {6, mostRev, of(one, func(h *impl.Hub, n int) { h.Next = n })},
		"Now":               {0, mostClock, of(one, func(h *impl.Hub, n int) { h.Now = n })},
		"Uid":               {1, 6, of(one, func(h *impl.Hub, n int) { h.Jobs[0].Uid, h.Holds[0].Uid = n, n })},
		"Uid, Next MaxRev":  {1, mostRev - 1, of(one, func(h *impl.Hub, n int) { h.Jobs[0].Uid, h.Holds[0].Uid, h.Next = n, n, mostRev })},
		"Uid of a hold":     {5, 5, of(one, func(h *impl.Hub, n int) { h.Holds[0].Uid = n })},
		"Copies wanted":     {0, mostCopies, of(one, func(h *impl.Hub, n int) { h.Jobs[0].Want.Copies = n })},
		"Room":              {0, mostCopies, of(one, func(h *impl.Hub, n int) { h.Posts[0].Island.Room = n })},
		"Heard":             {0, 30, of(one, func(h *impl.Hub, n int) { h.Posts[0].Heard = n })},
		"Seen":              {0, 40, of(one, func(h *impl.Hub, n int) { h.Posts[0].Seen = n })},
		"Copies":            {1, mostCopies, of(one, func(h *impl.Hub, n int) { h.Holds[0].Copies = n })},
		"Copies of what is": {0, 0, of(gone, func(h *impl.Hub, n int) { h.Holds[0].Copies = n })},
		"Runs":              {0, mostCopies, of(one, func(h *impl.Hub, n int) { h.Holds[0].Runs = n })},
		"Runs of what is":   {0, mostCopies, of(gone, func(h *impl.Hub, n int) { h.Holds[0].Runs = n })},
		"Gone":              {0, 0, of(one, func(h *impl.Hub, n int) { h.Holds[0].Gone = n })},
		"Gone of what is":   {1, 40, of(gone, func(h *impl.Hub, n int) { h.Holds[0].Gone = n })},
	} {
		for _, n := range []int{x.least - 2, x.least - 1, x.least, x.least + 1, (x.least + x.most) / 2, x.most - 1, x.most, x.most + 1, x.most + 2} {
			h := x.hub(n)
			if right := x.least <= n && n <= x.most; impl.HubOk(h) != right || isHub(h) != right {
				t.Errorf("%s: %d: %v", what, n, impl.HubOk(h))
			}
		}
	}
}

// As many as the limit are accepted, one more is not.
func TestHubListsAtTheLimits(t *testing.T) {
	patched := func(l []impl.Over) impl.Hub {
		return hubWith(func(h *impl.Hub) { h.Jobs[0].Patches = l })
	}
	for what, x := range map[string]struct {
		most int
		hub  func(n int) impl.Hub
	}{
		"jobs":    {mostJobs, func(n int) impl.Hub { return crowded(n, 2, 2) }},
		"posts":   {mostIslands, func(n int) impl.Hub { return crowded(2, n, 2) }},
		"dead":    {mostDead, func(n int) impl.Hub { return crowded(2, 2, n) }},
		"Patches": {mostIslands, func(n int) impl.Hub { return patched(oversOf(ascendingNames(n)...)) }},
		"Ops": {impl.MaxOps, func(n int) impl.Hub {
			return patched([]impl.Over{{Island: "a", Ops: slices.Repeat([]impl.Op{set("b", numOf(1))}, n)}})
		}},
	} {
		for n := range x.most + 5 {
			if h := x.hub(n); impl.HubOk(h) != (n <= x.most) || isHub(h) != (n <= x.most) {
				t.Errorf("%s: %d: %v", what, n, impl.HubOk(h))
			}
		}
	}
}

// All small numbers, and rows of holds.
func TestHubOkOfAllSmallOnes(t *testing.T) {
	right := 0
	is := func(h impl.Hub) {
		if impl.HubOk(h) != isHub(h) {
			t.Fatalf("%s: %v", textOfHub(h), impl.HubOk(h))
		}
		if isHub(h) {
			right++
		}
	}
	eachRow(7, 0, 2, func(n []int) {
		h := impl.Hub{Rev: 1, Next: 3, Now: n[0], Posts: []impl.Post{{Island: impl.Island{Name: "a", Room: 1}, Heard: n[1], Seen: n[2]}}}
		h.Jobs = []impl.Job{{Uid: n[3], Name: "a", Spec: mapOf("")}}
		h.Holds = []impl.Hold{{Uid: 1, Name: "a", Copies: n[4], Runs: n[5], Gone: n[6]}}
		is(h)
	})
	eachRow(4, 0, 3, func(n []int) {
		h := hubIn("9 4 0; 1 web 5, 2 db 5; a 5 0 0, b 5 0 0")
		for i := range 2 {
			h.Holds = append(h.Holds, impl.Hold{Uid: n[2*i], Name: []string{"a", "b", "", "c"}[n[2*i+1]], Copies: 1})
		}
		is(h)
	})
	eachRow(6, 0, 2, func(n []int) {
		h, names := impl.Hub{Next: 3}, []string{"a", "b", "-"}
		for i := range 2 {
			h.Jobs = append(h.Jobs, impl.Job{Uid: n[i], Name: names[n[2+i]], Spec: mapOf("")})
			h.Posts = append(h.Posts, impl.Post{Island: impl.Island{Name: names[n[4+i]]}})
		}
		is(h)
		h.Jobs, h.Dead = nil, []string{names[n[0]], names[n[1]]}
		is(h)
	})
	if right < 50 {
		t.Error("too few were tried:", right)
	}
}

// deedsByHand are deeds with their code, and what becomes of the hub; nothing where it stays as it is.
var deedsByHand = map[string][]struct {
	hub, deed string
	code      int
	then      string
}{
	"submit": {
		{"0 1 0", "submit web 6", impl.HubGood, "1 2 0; 1 web 6; ; ; "}, {"0 1 0; ; a 5 0 0", "submit web 6", impl.HubGood, "1 2 0; 1 web 6; a 5 0 0; 1 a 5 0 0; "}, {"4 9 7; 3 db 1; a 5 7 0; 3 a 1 1 0; x", "submit web 2", impl.HubGood, "5 10 7; 3 db 1, 9 web 2; a 5 7 0; 3 a 1 1 0, 9 a 2 0 0; x"},
		{"0 1 0; ; a 5 0 0", "submit web 0", impl.HubGood, "1 2 0; 1 web 0; a 5 0 0; ; "}, {"0 1 0; ; a 10000 0 0", "submit web 10000", impl.HubGood, "1 2 0; 1 web 10000; a 10000 0 0; 1 a 10000 0 0; "}, {"0 1 0; ; a 5 0 0", "submit web 10001", impl.HubForm, ""}, {"0 1 0; ; a 5 0 0", "submit web -1", impl.HubForm, ""},
		{"1 2 0; 1 web 6", "submit web 6", impl.HubThere, ""}, {"3 2 0; 1 web 6 ends; a 5 0 0; 1 a 0 2 2", "submit web 6", impl.HubThere, ""}, {"1 2 0; 1 web 6", "submit we 6", impl.HubGood, "2 3 0; 1 web 6, 2 we 6; ; ; "}, {"1 2 0; ; web 5 0 0; ; db", "submit web 1", impl.HubGood, "2 3 0; 2 web 1; web 5 0 0; 2 web 1 0 0; db"}, {"1 2 0; ; ; ; web", "submit web 1", impl.HubGood, "2 3 0; 2 web 1; ; ; web"},
		{"0 1 0", "submit - 6", impl.HubForm, ""}, {"0 1 0", "submit Web 6", impl.HubForm, ""}, {"1 2 0; 1 web 6", "submit web- 6", impl.HubForm, ""},
		{"999999 999999 0", "submit web 6", impl.HubGood, "1000000 1000000 0; 999999 web 6; ; ; "}, {"1000000 1 0", "submit web 6", impl.HubFull, ""}, {"5 1000000 0", "submit web 6", impl.HubFull, ""},
	},
	"resize": {
		{"1 2 0; 1 web 6; a 5 0 0; 1 a 5 3 0", "resize web 4", impl.HubGood, "2 2 0; 1 web 4; a 5 0 0; 1 a 4 3 0; "}, {"1 2 0; 1 web 6; a 5 0 0; 1 a 5 3 0", "resize web 6", impl.HubGood, "2 2 0; 1 web 6; a 5 0 0; 1 a 5 3 0; "}, {"1 2 0; 1 web 6; a 9 0 0; 1 a 6 3 0", "resize web 8", impl.HubGood, "2 2 0; 1 web 8; a 9 0 0; 1 a 8 3 0; "},
		{"1 2 0; 1 web 6; a 5 0 0; 1 a 5 3 0", "resize web 0", impl.HubGood, "2 2 0; 1 web 0; a 5 0 0; 1 a 0 3 2; "}, {"1 2 0; 1 web 6", "resize web 10000", impl.HubGood, "2 2 0; 1 web 10000; ; ; "}, {"1 2 0; 1 web 6", "resize web 10001", impl.HubForm, ""}, {"1 2 0; 1 web 6", "resize web -1", impl.HubForm, ""}, {"1 2 0; 1 web 6", "resize web 4294967296", impl.HubForm, ""},
		{"1 3 0; 1 web 6, 2 db 6; a 9 0 0; 1 a 6 0 0, 2 a 3 0 0", "resize db 1", impl.HubGood, "2 3 0; 1 web 6, 2 db 1; a 9 0 0; 1 a 6 0 0, 2 a 1 0 0; "},
		{"1 2 0; 1 web 6", "resize we 4", impl.HubNone, ""}, {"0 1 0", "resize web 4", impl.HubNone, ""}, {"1 2 0; 1 web 6; a 5 0 0", "resize a 4", impl.HubNone, ""}, {"3 2 0; 1 web 6 ends; a 5 0 0; 1 a 0 2 2", "resize web 4", impl.HubNone, ""}, {"3 2 0; 1 web 6 ends", "resize web 6", impl.HubNone, ""}, {"1 2 0; 1 web 6", "resize web- 4", impl.HubForm, ""}, {"1 2 0; 1 web 6", "resize -web 4", impl.HubForm, ""},
	},
	"cancel": {
		{"1 2 0; 1 web 6; a 5 0 0; 1 a 5 3 0", "cancel web", impl.HubGood, "2 2 0; 1 web 6 ends; a 5 0 0; 1 a 0 3 2; "}, {"1 2 0; 1 web 6", "cancel web", impl.HubGood, "2 2 0; ; ; ; "}, {"4 2 0; 1 web 6; a 5 0 0; 1 a 0 0 3", "cancel web", impl.HubGood, "5 2 0; 1 web 6 ends; a 5 0 0; 1 a 0 0 3; "}, {"4 3 30; 1 web 6, 2 db 1; a 5 9 0; 1 a 0 0 3", "cancel web", impl.HubGood, "5 3 30; 1 web 6 ends, 2 db 1; a 5 9 0; 1 a 0 0 3; "},
		{"1 3 0; 1 web 6, 2 db 4; a 7 0 0; 1 a 6 6 0, 2 a 1 0 0", "cancel web", impl.HubGood, "2 3 0; 1 web 6 ends, 2 db 4; a 7 0 0; 1 a 0 6 2, 2 a 4 0 0; "}, {"1 3 0; 1 web 6, 2 db 4; a 7 0 0; 1 a 6 6 0, 2 a 1 0 0", "cancel db", impl.HubGood, "2 3 0; 1 web 6, 2 db 4 ends; a 7 0 0; 1 a 6 6 0, 2 a 0 0 2; "},
		{"3 2 0; 1 web 6 ends; a 5 0 0; 1 a 0 2 2", "cancel web", impl.HubNone, ""}, {"3 2 0; 1 web 6 ends", "cancel web", impl.HubNone, ""}, {"1 2 0; 1 web 6", "cancel db", impl.HubNone, ""}, {"0 1 0", "cancel web", impl.HubNone, ""}, {"0 1 0", "cancel w_b", impl.HubForm, ""},
	},
	"join": {
		{"0 1 0", "join a 5", impl.HubGood, "1 1 0; ; a 5 0 0; ; "}, {"0 1 9", "join a 0", impl.HubGood, "1 1 9; ; a 0 9 0; ; "}, {"0 1 9", "join a 10000", impl.HubGood, "1 1 9; ; a 10000 9 0; ; "}, {"0 1 9", "join a 10001", impl.HubForm, ""}, {"0 1 9", "join a -1", impl.HubForm, ""}, {"0 1 9", "join A 5", impl.HubForm, ""}, {"0 1 9; ; a 5 0 0; ; b", "join b- 5", impl.HubForm, ""},
		{"3 2 7; 1 web 6; b 2 7 0; 1 b 2 0 0; x", "join a 9", impl.HubGood, "4 2 7; 1 web 6; a 9 7 0, b 2 7 0; 1 a 4 0 0, 1 b 2 0 0; x"}, {"3 2 7; 1 web 6; b 2 7 0; 1 b 2 0 0; x", "join c 9", impl.HubGood, "4 2 7; 1 web 6; b 2 7 0, c 9 7 0; 1 b 2 0 0, 1 c 4 0 0; x"}, {"3 2 7; ; a 2 7 0, c 2 0 1; ; x", "join b 9", impl.HubGood, "4 2 7; ; a 2 7 0, b 9 7 0, c 2 0 1; ; x"},
		{"3 2 7; ; a 2 7 0; ; b x", "join x 9", impl.HubDead, ""}, {"3 2 7; ; a 2 7 0; ; b x", "join b 2", impl.HubDead, ""}, {"3 2 7; ; a 2 7 0; ; b x", "join a 2", impl.HubThere, ""}, {"3 2 7; ; a 2 7 0; ; b x", "join a 9", impl.HubThere, ""}, {"3 2 7; 1 web 5; ; ; ", "join web 9", impl.HubGood, "4 2 7; 1 web 5; web 9 7 0; 1 web 5 0 0; "},
	},
	"expel": {
		{"4 2 7; 1 web 6; a 9 7 3, b 2 7 0; 1 a 4 2 0, 1 b 2 0 0; x", "expel a", impl.HubGood, "5 2 7; 1 web 6; b 2 7 0; 1 b 2 0 0; a x"}, {"4 2 7; 1 web 6; a 9 7 3, b 2 7 0; 1 a 4 2 0, 1 b 2 0 0; x", "expel b", impl.HubGood, "5 2 7; 1 web 6; a 9 7 3; 1 a 6 2 0; b x"}, {"4 2 7; 1 web 6; z 9 7 3; 1 z 6 2 0; x", "expel z", impl.HubGood, "5 2 7; 1 web 6; ; ; x z"}, {"4 2 7; ; y 9 7 3; ; x z", "expel y", impl.HubGood, "5 2 7; ; ; ; x y z"},
		{"4 4 7; 1 web 6 ends, 3 db 2; a 9 7 3, b 9 0 0; 1 a 0 2 4, 3 a 0 2 3", "expel a", impl.HubGood, "5 4 7; 3 db 2; b 9 0 0; 3 b 2 0 0; a"}, {"4 4 7; 1 web 6 ends; a 9 7 3, b 9 0 0; 1 a 0 2 4, 1 b 0 0 1", "expel a", impl.HubGood, "5 4 7; 1 web 6 ends; b 9 0 0; 1 b 0 0 1; a"},
		{"4 2 7; 1 web 6; a 9 7 3; 1 a 6 2 0; x", "expel b", impl.HubNone, ""}, {"4 2 7; 1 web 6; a 9 7 3; 1 a 6 2 0; x", "expel x", impl.HubNone, ""}, {"4 2 7; 1 web 6; a 9 7 3; 1 a 6 2 0; x", "expel web", impl.HubNone, ""}, {"0 1 0", "expel a", impl.HubNone, ""}, {"0 1 0", "expel A", impl.HubForm, ""}, {"4 2 7; 1 web 6; a 9 7 3; 1 a 6 2 0; x", "expel a-", impl.HubForm, ""},
	},
	"clock": {
		{"0 1 0", "clock 1", impl.HubGood, "1 1 1; ; ; ; "}, {"0 1 0", "clock 0", impl.HubForm, ""}, {"0 1 0", "clock -1", impl.HubForm, ""}, {"5 1 9", "clock 8", impl.HubForm, ""}, {"5 1 9", "clock 9", impl.HubForm, ""}, {"5 1 9", "clock 10", impl.HubGood, "6 1 10; ; ; ; "}, {"5 1 9", "clock 1000000", impl.HubGood, "6 1 1000000; ; ; ; "}, {"5 1 9", "clock 1000001", impl.HubForm, ""}, {"5 1 1000000", "clock 1000000", impl.HubForm, ""}, {"5 1 1000000", "clock 1000001", impl.HubForm, ""}, {"5 1 999999", "clock 1000000", impl.HubGood, "6 1 1000000; ; ; ; "}, {"5 1 0", "clock 4294967297", impl.HubForm, ""}, {"5 1 9", "clock -9223372036854775808", impl.HubForm, ""},
	},
}

func TestDeedsByHand(t *testing.T) {
	for _, table := range []map[string][]struct {
		hub, deed string
		code      int
		then      string
	}{deedsByHand, plannedByHand, reportsByHand} {
		for why, list := range table {
			for _, x := range list {
				h := hubIn(x.hub)
				if x.then == "" {
					x.then = textOfHub(h)
				}
				if got, code := doneRight(t, h, deedIn(x.deed)); code != x.code || textOfHub(got) != x.then {
					t.Errorf("%s: %s of %s: %d %s", why, x.deed, x.hub, code, textOfHub(got))
				}
			}
		}
	}
}

// plannedByHand are deeds behind which is planned otherwise than before.
var plannedByHand = map[string][]struct {
	hub, deed string
	code      int
	then      string
}{
	"heard just so long ago, and one more": {
		{"3 2 0; 1 web 4; a 9 0 0; 1 a 4 2 0", "clock 20", 0, "4 2 20; 1 web 4; a 9 0 0; 1 a 4 2 0; "}, {"3 2 0; 1 web 4; a 9 0 0; 1 a 4 2 0", "clock 21", 0, "4 2 21; 1 web 4; a 9 0 0; 1 a 0 2 4; "}, {"3 2 7; 1 web 4; a 9 7 0; 1 a 4 2 0", "clock 27", 0, "4 2 27; 1 web 4; a 9 7 0; 1 a 4 2 0; "}, {"3 2 7; 1 web 4; a 9 7 0; 1 a 4 2 0", "clock 28", 0, "4 2 28; 1 web 4; a 9 7 0; 1 a 0 2 4; "}, {"3 2 999979; 1 web 4; a 9 999980 0; 1 a 4 2 0", "clock 1000000", impl.HubForm, ""}, {"3 2 999980; 1 web 4; a 9 999980 0; 1 a 4 2 0", "clock 1000000", 0, "4 2 1000000; 1 web 4; a 9 999980 0; 1 a 4 2 0; "}, {"3 2 999980; 1 web 4; a 9 999979 0; 1 a 4 2 0", "clock 1000000", 0, "4 2 1000000; 1 web 4; a 9 999979 0; 1 a 0 2 4; "},
		{"3 2 10; 1 web 4; a 9 0 0, b 9 10 0; 1 a 2 2 0, 1 b 2 2 0", "clock 20", 0, "4 2 20; 1 web 4; a 9 0 0, b 9 10 0; 1 a 2 2 0, 1 b 2 2 0; "}, {"3 2 10; 1 web 4; a 9 0 0, b 9 10 0; 1 a 2 2 0, 1 b 2 2 0", "clock 21", 0, "4 2 21; 1 web 4; a 9 0 0, b 9 10 0; 1 a 0 2 4, 1 b 4 2 0; "}, {"3 2 10; 1 web 4; a 9 0 0, b 9 10 0; 1 a 2 2 0, 1 b 2 2 0", "clock 31", 0, "4 2 31; 1 web 4; a 9 0 0, b 9 10 0; 1 a 0 2 4, 1 b 0 2 4; "},
		{"3 2 21; 1 web 4; a 9 0 0", "submit db 3", 0, "4 3 21; 1 web 4, 2 db 3; a 9 0 0; ; "}, {"3 2 20; 1 web 4; a 9 0 0", "submit db 3", 0, "4 3 20; 1 web 4, 2 db 3; a 9 0 0; 1 a 4 0 0, 2 a 3 0 0; "}, {"3 2 21; 1 web 4; a 9 0 0; 1 a 4 2 0", "join b 3", 0, "4 2 21; 1 web 4; a 9 0 0, b 3 21 0; 1 a 0 2 4, 1 b 3 0 0; "},
	},
	"a share stays": {
		{"3 2 0; 1 web 4; a 9 0 0; 1 a 4 2 0", "clock 5", 0, "4 2 5; 1 web 4; a 9 0 0; 1 a 4 2 0; "}, {"3 2 0; 1 web 4; a 9 0 0; 1 a 4 2 0", "submit db 9", 0, "4 3 0; 1 web 4, 2 db 9; a 9 0 0; 1 a 4 2 0, 2 a 5 0 0; "},
	},
	"a share grows": {
		{"3 2 0; 1 web 4; a 2 0 0, b 9 0 0; 1 a 2 2 0, 1 b 2 1 0", "resize web 6", 0, "4 2 0; 1 web 6; a 2 0 0, b 9 0 0; 1 a 2 2 0, 1 b 4 1 0; "}, {"3 2 0; 1 web 4; a 9 0 0, b 9 0 0; 1 a 2 2 0, 1 b 2 1 0", "resize web 5", 0, "4 2 0; 1 web 5; a 9 0 0, b 9 0 0; 1 a 3 2 0, 1 b 2 1 0; "},
	},
	"a share shrinks": {
		{"3 2 0; 1 web 4; a 9 0 0, b 9 0 0; 1 a 2 2 0, 1 b 2 1 0", "resize web 3", 0, "4 2 0; 1 web 3; a 9 0 0, b 9 0 0; 1 a 2 2 0, 1 b 1 1 0; "}, {"3 2 0; 1 web 4; a 9 0 0; 1 a 4 4 0", "join b 9", 0, "4 2 0; 1 web 4; a 9 0 0, b 9 0 0; 1 a 2 4 0, 1 b 2 0 0; "}, {"3 2 0; 1 web 4; a 2 0 0; 1 a 4 4 0", "clock 1", 0, "4 2 1; 1 web 4; a 2 0 0; 1 a 2 4 0; "},
	},
	"a share goes": {
		{"3 2 0; 1 web 4; a 9 0 0, b 9 0 0; 1 a 2 2 0, 1 b 2 1 0", "resize web 1", 0, "4 2 0; 1 web 1; a 9 0 0, b 9 0 0; 1 a 1 2 0, 1 b 0 1 4; "}, {"3 2 0; 1 web 4; a 9 0 0; 1 a 4 0 0", "resize web 0", 0, "4 2 0; 1 web 0; a 9 0 0; 1 a 0 0 4; "}, {"3 2 0; 1 web 4; a 0 0 0; 1 a 4 4 0", "clock 1", 0, "4 2 1; 1 web 4; a 0 0 0; 1 a 0 4 4; "},
	},
	"what was taken away stays so": {
		{"5 2 0; 1 web 0; a 9 0 0; 1 a 0 2 3", "clock 1", 0, "6 2 1; 1 web 0; a 9 0 0; 1 a 0 2 3; "}, {"5 2 30; 1 web 4; a 9 0 0, b 9 0 0; 1 a 0 2 3, 1 b 4 0 0", "clock 31", 0, "6 2 31; 1 web 4; a 9 0 0, b 9 0 0; 1 a 0 2 3, 1 b 0 0 6; "},
	},
	"a share comes again": {
		{"5 2 0; 1 web 0; a 9 0 0; 1 a 0 2 3", "resize web 4", 0, "6 2 0; 1 web 4; a 9 0 0; 1 a 4 2 0; "}, {"5 2 30; 1 web 4; a 9 0 0; 1 a 0 2 3", "report a 0", 0, "6 2 30; 1 web 4; a 9 30 0; 1 a 4 0 0; "}, {"5 2 30; 1 web 4; a 9 0 2; 1 a 0 2 3", "report a 1 1x7", 0, "6 2 30; 1 web 4; a 9 30 2; 1 a 4 2 0; "}, {"5 2 30; 1 web 4; a 9 0 2; 1 a 0 2 3", "report a 3 1x7", 0, "6 2 30; 1 web 4; a 9 30 3; 1 a 4 7 0; "}, {"5 2 30; 1 web 4; a 9 0 2; 1 a 0 2 3", "report a 3", 0, "6 2 30; 1 web 4; a 9 30 3; 1 a 4 0 0; "},
		{"5 2 30; 1 web 4; a 9 0 0, b 9 20 0; 1 a 0 2 3, 1 b 4 4 0", "report a 0", 0, "6 2 30; 1 web 4; a 9 30 0, b 9 20 0; 1 a 2 0 0, 1 b 2 4 0; "},
	},
	"a job that ends": {
		{"5 2 0; 1 web 4 ends; a 9 0 0; 1 a 4 2 0", "clock 1", 0, "6 2 1; 1 web 4 ends; a 9 0 0; 1 a 0 2 6; "}, {"5 2 0; 1 web 4 ends; a 9 0 0; 1 a 0 2 3", "clock 1", 0, "6 2 1; 1 web 4 ends; a 9 0 0; 1 a 0 2 3; "}, {"5 2 0; 1 web 4 ends; a 9 0 0", "clock 1", 0, "6 2 1; ; a 9 0 0; ; "}, {"5 4 0; 1 web 4 ends, 2 db 1, 3 job 4 ends; a 9 0 0; 3 a 0 0 5", "clock 1", 0, "6 4 1; 2 db 1, 3 job 4 ends; a 9 0 0; 2 a 1 0 0, 3 a 0 0 5; "}, {"5 4 0; 1 web 4 ends, 2 db 1 ends, 3 job 4 ends; a 9 0 0; 2 a 0 0 5", "clock 1", 0, "6 4 1; 2 db 1 ends; a 9 0 0; 2 a 0 0 5; "},
		{"5 2 0; 1 web 0; a 9 0 0", "clock 1", 0, "6 2 1; 1 web 0; a 9 0 0; ; "}, {"5 2 0; 1 web 4 ends; a 9 0 0; 1 a 0 0 1", "expel a", 0, "6 2 0; ; ; ; a"},
	},
	"the room runs out ahead of the last job": {
		{"5 4 0; 1 one 3, 2 two 4, 3 three 2; a 5 0 0", "clock 1", 0, "6 4 1; 1 one 3, 2 two 4, 3 three 2; a 5 0 0; 1 a 3 0 0, 2 a 2 0 0; "}, {"5 3 0; 1 one 3, 2 two 2; a 5 0 0; 1 a 3 3 0, 2 a 2 2 0", "resize one 5", 0, "6 3 0; 1 one 5, 2 two 2; a 5 0 0; 1 a 5 3 0, 2 a 0 2 6; "}, {"5 3 0; 1 z 5, 2 a 5; a 7 0 0", "clock 1", 0, "6 3 1; 1 z 5, 2 a 5; a 7 0 0; 1 a 5 0 0, 2 a 2 0 0; "}, {"5 3 0; 1 one 3, 2 two 2; a 5 0 0; 1 a 3 3 0, 2 a 2 2 0", "submit three 1", 0, "6 4 0; 1 one 3, 2 two 2, 3 three 1; a 5 0 0; 1 a 3 3 0, 2 a 2 2 0; "},
		{"5 4 0; 1 one 3, 2 two 4, 3 three 2; a 5 0 0, b 3 0 0; 1 a 2 0 0, 1 b 1 0 0, 2 a 2 0 0, 2 b 2 0 0, 3 a 1 0 0", "cancel one", 0, "6 4 0; 1 one 3 ends, 2 two 4, 3 three 2; a 5 0 0, b 3 0 0; 1 a 0 0 6, 1 b 0 0 6, 2 a 2 0 0, 2 b 2 0 0, 3 a 1 0 0, 3 b 1 0 0; "},
	},
}

// reportsByHand are what islands tell, right or not, in time or late.
var reportsByHand = map[string][]struct {
	hub, deed string
	code      int
	then      string
}{
	"as new as what was told, ahead of what was taken away": {
		{reported, "report a 6 1x3 2x2", 0, "10 4 30; 1 web 6, 2 db 4 ends; a 5 30 6, b 3 30 0; 1 a 3 3 0, 1 b 3 1 0, 2 a 0 2 7; "}, {reported, "report a 6 1x5 2x9", 0, "10 4 30; 1 web 6, 2 db 4 ends; a 5 30 6, b 3 30 0; 1 a 3 5 0, 1 b 3 1 0, 2 a 0 9 7; "}, {reported, "report a 6", 0, "10 4 30; 1 web 6, 2 db 4 ends; a 5 30 6, b 3 30 0; 1 a 3 0 0, 1 b 3 1 0, 2 a 0 0 7; "}, {reported, "report a 6 2x1 3x5 77x1 1000000x9", 0, "10 4 30; 1 web 6, 2 db 4 ends; a 5 30 6, b 3 30 0; 1 a 3 0 0, 1 b 3 1 0, 2 a 0 1 7; "},
		{reported, "report b 0 1x3 2x2", 0, "10 4 30; 1 web 6, 2 db 4 ends; a 5 20 6, b 3 30 0; 1 a 3 3 0, 1 b 3 3 0, 2 a 0 2 7; "}, {reported, "report b 9 2x2", 0, "10 4 30; 1 web 6, 2 db 4 ends; a 5 20 6, b 3 30 9; 1 a 3 3 0, 1 b 3 0 0, 2 a 0 2 7; "},
	},
	"older than what was told": {
		{reported, "report a 5 1x9 2x9", 0, "10 4 30; 1 web 6, 2 db 4 ends; a 5 30 6, b 3 30 0; 1 a 3 3 0, 1 b 3 1 0, 2 a 0 2 7; "}, {reported, "report a 5", 0, "10 4 30; 1 web 6, 2 db 4 ends; a 5 30 6, b 3 30 0; 1 a 3 3 0, 1 b 3 1 0, 2 a 0 2 7; "}, {reported, "report a 0", 0, "10 4 30; 1 web 6, 2 db 4 ends; a 5 30 6, b 3 30 0; 1 a 3 3 0, 1 b 3 1 0, 2 a 0 2 7; "},
		{"9 4 30; 2 db 4 ends; a 5 20 8; 2 a 0 2 7", "report a 7", 0, "10 4 30; ; a 5 30 8; ; "}, {"9 4 30; 2 db 4 ends; a 5 20 8; 2 a 0 2 7", "report a 7 2x1", 0, "10 4 30; 2 db 4 ends; a 5 30 8; 2 a 0 2 7; "}, {"9 4 30; 2 db 4 ends; a 5 20 8; 2 a 0 2 7", "report a 6", 0, "10 4 30; 2 db 4 ends; a 5 30 8; 2 a 0 2 7; "},
	},
	"as new as what was taken away, and newer": {
		{reported, "report a 7 1x3", 0, "10 4 30; 1 web 6; a 5 30 7, b 3 30 0; 1 a 3 3 0, 1 b 3 1 0; "}, {reported, "report a 7", 0, "10 4 30; 1 web 6; a 5 30 7, b 3 30 0; 1 a 3 0 0, 1 b 3 1 0; "}, {reported, "report a 8 1x2 3x4", 0, "10 4 30; 1 web 6; a 5 30 8, b 3 30 0; 1 a 3 2 0, 1 b 3 1 0; "}, {reported, "report a 9 1x2", 0, "10 4 30; 1 web 6; a 5 30 9, b 3 30 0; 1 a 3 2 0, 1 b 3 1 0; "},
		{reported, "report a 7 1x3 2x0", 0, "10 4 30; 1 web 6, 2 db 4 ends; a 5 30 7, b 3 30 0; 1 a 3 3 0, 1 b 3 1 0, 2 a 0 0 7; "}, {reported, "report a 9 1x3 2x1", 0, "10 4 30; 1 web 6, 2 db 4 ends; a 5 30 9, b 3 30 0; 1 a 3 3 0, 1 b 3 1 0, 2 a 0 1 7; "},
		{"9 4 30; 1 web 3, 2 db 4 ends; a 5 20 6, b 3 9 0; 1 b 0 1 4, 2 a 0 2 7, 2 b 0 0 7", "report a 7 1x3", 0, "10 4 30; 1 web 3, 2 db 4 ends; a 5 30 7, b 3 9 0; 1 a 3 0 0, 1 b 0 1 4, 2 b 0 0 7; "}, {"9 4 30; 1 web 3; a 5 20 6; 1 a 3 3 0", "report a 9", 0, "10 4 30; 1 web 3; a 5 30 9; 1 a 3 0 0; "},
		{"9 4 90; 1 web 3; a 5 20 6; 1 a 0 3 8", "report a 8", 0, "10 4 90; 1 web 3; a 5 90 8; 1 a 3 0 0; "}, {"9 4 90; 1 web 3; a 5 20 6; 1 a 0 3 8", "report a 8 1x3", 0, "10 4 90; 1 web 3; a 5 90 8; 1 a 3 3 0; "},
	},
	"refused": {
		{reported, "report c 5", impl.HubNone, ""}, {reported, "report c 10", impl.HubNone, ""}, {reported, "report c -1", impl.HubNone, ""}, {reported, "report web 5", impl.HubNone, ""}, {reported, "report x 5", impl.HubNone, ""}, {"0 1 0", "report a 0", impl.HubNone, ""}, {"0 1 0", "report a 1", impl.HubNone, ""},
		{reported, "report a 10", impl.HubForm, ""}, {reported, "report a 10 1x3", impl.HubForm, ""}, {reported, "report a -1", impl.HubForm, ""}, {reported, "report a 1000000", impl.HubForm, ""}, {reported, "report a 4294967302", impl.HubForm, ""}, {reported, "report A 5", impl.HubForm, ""}, {reported, "report a- 5", impl.HubForm, ""},
	},
	"runs that are not right": {
		{reported, "report a 7 2x1 1x3", impl.HubForm, ""}, {reported, "report a 7 1x1 1x1", impl.HubForm, ""}, {reported, "report a 7 1x1 1x2", impl.HubForm, ""}, {reported, "report a 7 1x1 3x1 2x1", impl.HubForm, ""}, {reported, "report a 7 1x1 2x1 2x1", impl.HubForm, ""}, {reported, "report a 7 10x1 9x1", impl.HubForm, ""},
		{reported, "report a 7 0x1", impl.HubForm, ""}, {reported, "report a 7 -1x1", impl.HubForm, ""}, {reported, "report a 7 0x1 1x3", impl.HubForm, ""}, {reported, "report a 7 1x3 1000001x1", impl.HubForm, ""}, {reported, "report a 7 4294967297x1", impl.HubForm, ""}, {reported, "report a 7 1x-1", impl.HubForm, ""}, {reported, "report a 7 1x10001", impl.HubForm, ""}, {reported, "report a 7 1x3 2x4294967296", impl.HubForm, ""}, {reported, "report a 7 77x-1", impl.HubForm, ""}, {reported, "report c 7 0x1", impl.HubForm, ""},
	},
	"runs at their limits": {
		{reported, "report a 6 1x10000 2x0", 0, "10 4 30; 1 web 6, 2 db 4 ends; a 5 30 6, b 3 30 0; 1 a 3 10000 0, 1 b 3 1 0, 2 a 0 0 7; "}, {reported, "report a 6 1x0 2x10000 1000000x10000", 0, "10 4 30; 1 web 6, 2 db 4 ends; a 5 30 6, b 3 30 0; 1 a 3 0 0, 1 b 3 1 0, 2 a 0 10000 7; "},
		{"9 1000000 30; 999999 web 6; a 9 30 0; 999999 a 6 0 0", "report a 6 999999x4", impl.HubFull, ""}, {"9 999999 30; 999998 web 6; a 9 30 0; 999998 a 6 0 0", "report a 6 999998x4 1000000x5", 0, "10 999999 30; 999998 web 6; a 9 30 6; 999998 a 6 4 0; "},
	},
	"rev at its limits": {
		{"0 1 0; ; a 5 0 0", "report a 0", 0, "1 1 0; ; a 5 0 0; ; "}, {"0 1 0; ; a 5 0 0", "report a 1", impl.HubForm, ""}, {"999999 1 0; ; a 5 0 0", "report a 999999", 0, "1000000 1 0; ; a 5 0 999999; ; "}, {"999999 1 0; ; a 5 0 0", "report a 1000000", impl.HubForm, ""}, {"1000000 1 0; ; a 5 0 0", "report a 1000000", impl.HubFull, ""}, {"1000000 1 0; ; a 5 0 0", "report a 1000001", impl.HubFull, ""}, {"1000000 1 0; ; a 5 0 0", "report b 1000001", impl.HubFull, ""}, {"1000000 1 0; ; a 5 0 0", "report a 5 0x0", impl.HubForm, ""},
	},
}

// reported has an island that was told of revision 6, and holds what was taken away at 7, and one that was told of nothing.
const reported = "9 4 30; 1 web 6, 2 db 4 ends; a 5 20 6, b 3 30 0; 1 a 3 3 0, 1 b 3 1 0, 2 a 0 2 7"

// Each job has what chapter 10 tells: of those islands alone that are well, where it may be, by its weights.
func TestPlacedByItsWant(t *testing.T) {
	h := impl.HubNew()
	for _, i := range islandsIn("a: zone=east; ; 5 | b: zone=west; gold; 9 | c: zone=east; gold; 4") {
		h, _ = doneRight(t, h, join(i))
	}
	for i, x := range []struct{ want, holds string }{
		{"6: ; ; ", "1 a 5 0 0"}, {"9: zone=east; gold; ", "1 a 5 0 0, 2 c 4 0 0"}, {"3: ; gold; a*0 c*0", "1 a 5 0 0, 2 c 4 0 0, 3 b 3 0 0"}, {"9: !zone; gold; ", "1 a 5 0 0, 2 c 4 0 0, 3 b 3 0 0"}, {"2: zone=west; tin; ", "1 a 5 0 0, 2 c 4 0 0, 3 b 3 0 0"}, {"9: ; gold; b*1000", "1 a 5 0 0, 2 c 4 0 0, 3 b 3 0 0, 6 b 6 0 0"}, {"1: ; gold; ", "1 a 5 0 0, 2 c 4 0 0, 3 b 3 0 0, 6 b 6 0 0"},
	} {
		h, _ = doneRight(t, h, submit("job-"+strconv.Itoa(i), wantIn(x.want), webSpec()))
		if got := strings.Split(textOfHub(h), "; ")[3]; got != x.holds {
			t.Errorf("%s: %s", x.want, got)
		}
	}
	for _, x := range []struct{ deed, holds string }{
		{"resize job-0 3", "1 a 3 0 0, 2 a 2 0 0, 2 c 4 0 0, 3 b 3 0 0, 6 b 6 0 0"}, {"resize job-2 0", "1 a 3 0 0, 2 a 2 0 0, 2 c 4 0 0, 3 b 0 0 12, 6 b 9 0 0"}, {"expel c", "1 a 3 0 0, 2 a 2 0 0, 3 b 0 0 12, 6 b 9 0 0"}, {"cancel job-5", "1 a 3 0 0, 2 a 2 0 0, 3 b 0 0 12, 6 b 0 0 14, 7 b 1 0 0"}, {"report b 14 7x1", "1 a 3 0 0, 2 a 2 0 0, 7 b 1 1 0"}, {"clock 20", "1 a 3 0 0, 2 a 2 0 0, 7 b 1 1 0"}, {"clock 21", "1 a 0 0 17, 2 a 0 0 17, 7 b 0 1 17"}, {"report a 16", "1 a 3 0 0, 2 a 2 0 0, 7 b 0 1 17"},
	} {
		h, _ = doneRight(t, h, deedIn(x.deed))
		if got := strings.Split(textOfHub(h), "; ")[3]; got != x.holds {
			t.Errorf("%s: %s", x.deed, got)
		}
	}
}

// What was submitted is kept as it was handed in, and so is an island.
func TestWhatIsSubmittedIsKept(t *testing.T) {
	want := usual().Jobs[0]
	h, code := doneRight(t, impl.HubNew(), submit("web", want.Want, want.Spec, want.Patches...))
	if code != impl.HubGood || !sameAll(h.Jobs, []impl.Job{want}) {
		t.Error(code, h.Jobs)
	}
	i := islandIn(usualIsland)
	h, _ = doneRight(t, h, deedIn("clock 7"))
	if h, code = doneRight(t, h, join(i)); code != impl.HubGood || !sameAll(h.Posts, []impl.Post{{Island: i, Heard: 7}}) {
		t.Error(code, h.Posts)
	}
	want.Want.Copies = 9
	if h, _ = doneRight(t, h, deedIn("resize web 9")); !sameAll(h.Jobs, []impl.Job{want}) {
		t.Error(h.Jobs)
	}
	h, _ = doneRight(t, h, join(impl.Island{Name: "b", Labels: labels("zone=east"), Room: 5}))
	want.Ends = true
	if h, _ = doneRight(t, h, deedIn("cancel web")); !sameAll(h.Jobs, []impl.Job{want}) || len(h.Holds) == 0 {
		t.Error(h.Jobs)
	}
	for why, w := range rightWants() {
		if h, code = doneRight(t, impl.HubNew(), submit("web", w, mapOf(""))); code != impl.HubGood || !sameAll(h.Jobs[0].Want, w) {
			t.Error(why, code)
		}
	}
	for why, l := range rightPatches() {
		if h, code = doneRight(t, impl.HubNew(), submit("web", impl.Want{}, webSpec(), l...)); code != impl.HubGood || !sameAll(h.Jobs[0].Patches, l) {
			t.Error(why, code)
		}
	}
	for _, x := range rightValues() {
		if h, code = doneRight(t, impl.HubNew(), submit("web", impl.Want{}, x.v)); code != impl.HubGood || !alike(h.Jobs[0].Spec, x.v) {
			t.Error(x.s, code)
		}
	}
	for why, i := range rightIslands() {
		if h, code = doneRight(t, usual(), join(i)); code != impl.HubGood && (code != impl.HubThere || i.Name != "a") {
			t.Error(why, code)
		}
	}
}

// As many as the limit go, one more does not.
func TestDeedsAtTheLimits(t *testing.T) {
	for n := range mostJobs + 3 {
		if _, code := doneRight(t, crowded(min(n, mostJobs), 2, 2), deedIn("submit new 1")); (code == impl.HubGood) != (n < mostJobs) || n >= mostJobs && code != impl.HubFull {
			t.Error(n, "jobs", code)
		}
		if _, code := doneRight(t, crowded(2, 2, min(n, mostDead)), deedIn("expel k000")); (code == impl.HubGood) != (n < mostDead) || n >= mostDead && code != impl.HubFull {
			t.Error(n, "dead", code)
		}
	}
	for n := range mostIslands + 3 {
		if _, code := doneRight(t, crowded(2, min(n, mostIslands), 2), deedIn("join new 1")); (code == impl.HubGood) != (n < mostIslands) || n >= mostIslands && code != impl.HubFull {
			t.Error(n, "posts", code)
		}
	}
	for n := range mostRuns + 5 {
		for _, first := range []int{1, mostRev - mostRuns + 1} {
			runs := []impl.Run{}
			for i := range n {
				runs = append(runs, impl.Run{Uid: first + i, N: i})
			}
			right := n <= mostRuns && first+n-1 <= mostRev
			if h, code := doneRight(t, crowded(mostJobs, 2, 2), report("k001", 900, runs...)); (code == impl.HubGood) != right || !right && code != impl.HubForm || right && first == 1 && n > 29 && h.Holds[39].Runs != 28 {
				t.Error(n, "runs from", first, code)
			}
		}
	}
	h := impl.HubNew()
	for i, name := range ascendingNames(mostJobs + 2) {
		h, _ = doneRight(t, h, deedIn("submit "+name+" 3"))
		h, _ = doneRight(t, h, deedIn("join "+name+" 4"))
		if len(h.Jobs) != min(i+1, mostJobs) || len(h.Posts) != min(i+1, mostIslands) || h.Next != len(h.Jobs)+1 {
			t.Fatal(i, textOfHub(h))
		}
	}
}

// Where several codes apply, the one that the document names first is answered.
func TestOrderOfHubCodes(t *testing.T) {
	packed := func() impl.Hub { return crowded(mostJobs, mostIslands, mostDead) }
	atRev, atNext, broken, ending := packed(), packed(), packed(), packed()
	atRev.Rev, atNext.Next, broken.Jobs[5].Uid, ending.Jobs[1].Ends = mostRev, mostRev, 0, true
	brokenAtRev := plainCopy(broken)
	brokenAtRev.Rev = mostRev
	noWant, noSpec, noPatch := deedIn("submit k000 -1"), submit("k000", impl.Want{}, impl.Value{}), submit("k000", impl.Want{}, mapOf(""), oversOf("b", "a")...)
	for what, x := range map[string]struct {
		h impl.Hub
		deed
		code int
	}{
		"submit: broken and there": {broken, deedIn("submit k000 1"), impl.HubForm}, "submit: broken and at MaxRev": {brokenAtRev, deedIn("submit k000 1"), impl.HubForm}, "submit: no Want, there": {packed(), noWant, impl.HubForm}, "submit: no Want, at MaxRev": {atRev, noWant, impl.HubForm}, "submit: no Spec, there": {packed(), noSpec, impl.HubForm}, "submit: no Spec, at the last Next": {atNext, noSpec, impl.HubForm}, "submit: no patch, there": {packed(), noPatch, impl.HubForm}, "submit: no patch, at MaxRev": {atRev, noPatch, impl.HubForm}, "submit: no name, at MaxRev": {atRev, deedIn("submit - 1"), impl.HubForm}, "submit: no name, full": {packed(), deedIn("submit - 1"), impl.HubForm},
		"submit: at MaxRev and there": {atRev, deedIn("submit k000 1"), impl.HubFull}, "submit: at the last Next and there": {atNext, deedIn("submit k000 1"), impl.HubFull}, "submit: there and full": {packed(), deedIn("submit k000 1"), impl.HubThere}, "submit: ends, there and full": {ending, deedIn("submit k001 1"), impl.HubThere}, "submit: full": {packed(), deedIn("submit new 1"), impl.HubFull},
		"resize: broken and not there": {broken, deedIn("resize new 1"), impl.HubForm}, "resize: no copies, not there": {packed(), deedIn("resize new -1"), impl.HubForm}, "resize: no copies, ends": {ending, deedIn("resize k001 10001"), impl.HubForm}, "resize: no copies, at MaxRev": {atRev, deedIn("resize k001 10001"), impl.HubForm}, "resize: no name, at the last Next": {atNext, deedIn("resize - 1"), impl.HubForm}, "resize: at MaxRev, not there": {atRev, deedIn("resize new 1"), impl.HubFull}, "resize: at the last Next, not there": {atNext, deedIn("resize new 1"), impl.HubFull}, "resize: at the last Next": {atNext, deedIn("resize k001 1"), impl.HubFull}, "resize: at MaxRev": {atRev, deedIn("resize k001 1"), impl.HubFull}, "resize: ends": {ending, deedIn("resize k001 1"), impl.HubNone},
		"cancel: broken and not there": {broken, deedIn("cancel new"), impl.HubForm}, "cancel: no name, at MaxRev": {atRev, deedIn("cancel -"), impl.HubForm}, "cancel: at MaxRev, not there": {atRev, deedIn("cancel new"), impl.HubFull}, "cancel: at the last Next, not there": {atNext, deedIn("cancel new"), impl.HubFull}, "cancel: at MaxRev": {atRev, deedIn("cancel k001"), impl.HubFull}, "cancel: ends": {ending, deedIn("cancel k001"), impl.HubNone},
		"join: broken and dead": {broken, deedIn("join x-k000 1"), impl.HubForm}, "join: no room, dead": {packed(), deedIn("join x-k000 -1"), impl.HubForm}, "join: no room, there": {packed(), deedIn("join k000 -1"), impl.HubForm}, "join: no room, full": {packed(), deedIn("join new 10001"), impl.HubForm}, "join: no room, at MaxRev": {atRev, deedIn("join new 10001"), impl.HubForm}, "join: at MaxRev and dead": {atRev, deedIn("join x-k000 1"), impl.HubFull}, "join: at the last Next and there": {atNext, deedIn("join k000 1"), impl.HubFull}, "join: dead and full": {packed(), deedIn("join x-k000 1"), impl.HubDead}, "join: there and full": {packed(), deedIn("join k011 1"), impl.HubThere}, "join: full": {packed(), deedIn("join new 1"), impl.HubFull}, "join: dead, not full": {crowded(2, 2, mostDead), deedIn("join x-k019 1"), impl.HubDead},
		"expel: broken and not there": {broken, deedIn("expel new"), impl.HubForm}, "expel: no name, full": {packed(), deedIn("expel -"), impl.HubForm}, "expel: at MaxRev, not there": {atRev, deedIn("expel new"), impl.HubFull}, "expel: at the last Next": {atNext, deedIn("expel k000"), impl.HubFull}, "expel: not there and full": {packed(), deedIn("expel new"), impl.HubNone}, "expel: dead and full": {packed(), deedIn("expel x-k000"), impl.HubNone}, "expel: full": {packed(), deedIn("expel k000"), impl.HubFull},
		"clock: broken and back": {broken, deedIn("clock 9"), impl.HubForm}, "clock: broken, at MaxRev": {brokenAtRev, deedIn("clock 99"), impl.HubForm}, "clock: back, at MaxRev": {atRev, deedIn("clock 50"), impl.HubForm}, "clock: too far, at the last Next": {atNext, deedIn("clock 1000001"), impl.HubForm}, "clock: at MaxRev": {atRev, deedIn("clock 51"), impl.HubFull}, "clock: at the last Next": {atNext, deedIn("clock 51"), impl.HubFull},
		"report: broken and not there": {broken, deedIn("report new 1"), impl.HubForm}, "report: no runs, not there": {packed(), deedIn("report new 1 0x1"), impl.HubForm}, "report: no runs, at MaxRev": {atRev, deedIn("report k000 1 0x1"), impl.HubForm}, "report: no name, at MaxRev": {atRev, deedIn("report - 1"), impl.HubForm}, "report: at MaxRev, not there": {atRev, deedIn("report new 1"), impl.HubFull}, "report: at MaxRev, too far": {atRev, deedIn("report k000 1000001"), impl.HubFull}, "report: at the last Next, too far": {atNext, deedIn("report k000 901"), impl.HubFull}, "report: at the last Next": {atNext, deedIn("report k000 900"), impl.HubFull}, "report: not there and too far": {packed(), deedIn("report new 901"), impl.HubNone}, "report: not there and below 0": {packed(), deedIn("report new -1"), impl.HubNone}, "report: too far": {packed(), deedIn("report k000 901"), impl.HubForm}, "report: too far, no runs": {packed(), deedIn("report k000 901 1x-1"), impl.HubForm},
	} {
		if _, code := doneRight(t, x.h, x.deed); code != x.code {
			t.Errorf("%s: %d, not %d", what, code, x.code)
		}
	}
}

// someDeeds are right for usual, or refused there for what is in it.
func someDeeds() []deed {
	out := []deed{submit("new", wantIn(usualWant), webSpec(), usual().Jobs[0].Patches...), join(islandIn("d: a=b; gold; 5"))}
	for _, s := range []string{"submit new 9", "submit web 3", "submit k000 5", "submit db 3", "resize web 1", "resize web 40", "resize k005 3", "resize db 3", "resize none 3", "cancel web", "cancel job", "cancel k003", "cancel db", "cancel none", "join new 5", "join a 5", "join x 5", "join x-k001 3", "expel a", "expel b", "expel c", "expel k004", "expel none", "clock 31", "clock 51", "clock 30", "clock 1000000", "report a 40 1x3 3x1 5x2", "report a 40", "report a 38 1x3", "report a 37", "report a 0", "report b 30", "report c 31", "report c 40 3x0", "report c 9", "report c 12", "report k002 900 10x1 11x5", "report none 3", "report a 41"} {
		out = append(out, deedIn(s))
	}
	return out
}

func TestDeedsOfRightHubs(t *testing.T) {
	deeds := someDeeds()
	for _, d := range deeds {
		doneRight(t, usual(), d)
		doneRight(t, crowded(mostJobs, mostIslands, mostDead), d)
		doneRight(t, crowded(mostJobs-1, mostIslands-1, mostDead-1), d)
	}
	right := rightHubs()
	for n, why := range slices.Sorted(maps.Keys(right)) {
		for i := range 4 {
			doneRight(t, right[why], deeds[(4*n+i)%len(deeds)])
		}
	}
}

// wrongDeeds have an argument that is not as told; what they name may be there in usual.
func wrongDeeds() []deed {
	out := []deed{}
	for _, s := range wrongNames {
		out = append(out, submit(s, impl.Want{Copies: 1}, mapOf("")), deed{What: "resize", Name: s, N: 1}, deed{What: "cancel", Name: s}, deed{What: "expel", Name: s}, report(s, 1), join(impl.Island{Name: s, Room: 1}))
	}
	// Which name is taken makes no difference: that it is there would be told behind.
	name := func() string { return []string{"new", "web", "db"}[len(out)%3] }
	for _, w := range wrongWants() {
		out = append(out, submit(name(), w, mapOf("")))
	}
	for _, v := range wrongValues() {
		out = append(out, submit(name(), impl.Want{}, v))
	}
	for _, l := range wrongPatches() {
		out = append(out, submit(name(), impl.Want{}, webSpec(), l...))
	}
	for _, i := range wrongIslands() {
		out = append(out, join(i))
	}
	for _, n := range farNumbers {
		out = append(out, deed{What: "resize", Name: "web", N: n}, deed{What: "resize", Name: "db", N: n}, deed{What: "resize", Name: "none", N: n}, report("a", 40, impl.Run{Uid: 1, N: n}), report("a", 40, impl.Run{Uid: 1}, impl.Run{Uid: 2, N: n}, impl.Run{Uid: 3}), report("none", 40, impl.Run{Uid: 1, N: n}))
	}
	for _, n := range append([]int{0}, farTimes...) {
		out = append(out, deed{What: "clock", N: n}, report("a", 40, impl.Run{Uid: n}), report("none", 40, impl.Run{Uid: n}), report("a", 40, impl.Run{Uid: n}, impl.Run{Uid: mostRev}), report("a", 40, impl.Run{Uid: 1}, impl.Run{Uid: n}))
	}
	for _, s := range []string{"1x1 1x1", "2x1 1x1", "1x1 3x1 3x1", "1x1 3x1 2x1", "5x0 5x0"} {
		out = append(out, deedIn("report a 40 "+s), deedIn("report a 0 "+s), deedIn("report none 40 "+s))
	}
	return append(out, report("a", 40, slices.Repeat([]impl.Run{{Uid: 1}}, mostRuns+1)...))
}

// Of what is not as told the answer is the hub that came in, and HubForm.
func TestHubRefuses(t *testing.T) {
	deeds, wrong := someDeeds(), wrongHubs()
	for n, why := range slices.Sorted(maps.Keys(wrong)) {
		if got, code := deeds[n%len(deeds)].at(wrong[why]); code != impl.HubForm || !sameAll(got, wrong[why]) {
			t.Errorf("%.60s: %s: %d", why, deeds[n%len(deeds)], code)
		}
	}
	hubs := []impl.Hub{hubWith(func(h *impl.Hub) { h.Rev = mostRev }), hubWith(func(h *impl.Hub) { h.Next = mostRev }), {}}
	for i, d := range wrongDeeds() {
		for _, h := range []impl.Hub{usual(), hubs[i%3]} {
			if got, code := d.at(h); code != impl.HubForm || !sameAll(got, h) {
				t.Errorf("%s of %s: %d", d, textOfHub(h), code)
			}
		}
		if d.isRight(usual()) {
			t.Fatalf("%s: the test is wrong", d)
		}
	}
	for _, d := range []deed{report("a", 41), report("a", -1), report("a", mostRev), report("a", math.MaxInt), report("a", math.MinInt), report("b", 41, impl.Run{Uid: 1, N: 1})} {
		if _, code := doneRight(t, usual(), d); code != impl.HubForm {
			t.Errorf("%s: %d", d, code)
		}
	}
}

// A run of deeds, each with its code, and what there is behind it.
func TestDeedsOneBehindTheOther(t *testing.T) {
	h := impl.HubNew()
	for i, x := range []struct {
		deed string
		code int
		then string
	}{
		{"submit web 6", 0, "1 2 0; 1 web 6; ; ; "},
		{"join b 4", 0, "2 2 0; 1 web 6; b 4 0 0; 1 b 4 0 0; "},
		{"join a 4", 0, "3 2 0; 1 web 6; a 4 0 0, b 4 0 0; 1 a 3 0 0, 1 b 3 0 0; "},
		{"submit db 3", 0, "4 3 0; 1 web 6, 2 db 3; a 4 0 0, b 4 0 0; 1 a 3 0 0, 1 b 3 0 0, 2 a 1 0 0, 2 b 1 0 0; "},
		{"submit db 3", impl.HubThere, "4 3 0; 1 web 6, 2 db 3; a 4 0 0, b 4 0 0; 1 a 3 0 0, 1 b 3 0 0, 2 a 1 0 0, 2 b 1 0 0; "},
		{"clock 15", 0, "5 3 15; 1 web 6, 2 db 3; a 4 0 0, b 4 0 0; 1 a 3 0 0, 1 b 3 0 0, 2 a 1 0 0, 2 b 1 0 0; "},
		{"report a 4 1x3 2x1", 0, "6 3 15; 1 web 6, 2 db 3; a 4 15 4, b 4 0 0; 1 a 3 3 0, 1 b 3 0 0, 2 a 1 1 0, 2 b 1 0 0; "},
		{"clock 25", 0, "7 3 25; 1 web 6, 2 db 3; a 4 15 4, b 4 0 0; 1 a 4 3 0, 1 b 0 0 7, 2 a 0 1 7, 2 b 0 0 7; "},
		{"report a 3 1x1", 0, "8 3 25; 1 web 6, 2 db 3; a 4 25 4, b 4 0 0; 1 a 4 3 0, 1 b 0 0 7, 2 a 0 1 7, 2 b 0 0 7; "},
		{"report a 7 1x4 2x0", 0, "9 3 25; 1 web 6, 2 db 3; a 4 25 7, b 4 0 0; 1 a 4 4 0, 1 b 0 0 7, 2 a 0 0 7, 2 b 0 0 7; "},
		{"report a 8 1x4", 0, "10 3 25; 1 web 6, 2 db 3; a 4 25 8, b 4 0 0; 1 a 4 4 0, 1 b 0 0 7, 2 b 0 0 7; "},
		{"cancel db", 0, "11 3 25; 1 web 6, 2 db 3 ends; a 4 25 8, b 4 0 0; 1 a 4 4 0, 1 b 0 0 7, 2 b 0 0 7; "},
		{"submit db 1", impl.HubThere, "11 3 25; 1 web 6, 2 db 3 ends; a 4 25 8, b 4 0 0; 1 a 4 4 0, 1 b 0 0 7, 2 b 0 0 7; "},
		{"report b 6 1x3 2x1", 0, "12 3 25; 1 web 6, 2 db 3 ends; a 4 25 8, b 4 25 6; 1 a 3 4 0, 1 b 3 3 0, 2 b 0 1 7; "},
		{"report b 7 1x3 2x1", 0, "13 3 25; 1 web 6, 2 db 3 ends; a 4 25 8, b 4 25 7; 1 a 3 4 0, 1 b 3 3 0, 2 b 0 1 7; "},
		{"report b 12 1x3", 0, "14 3 25; 1 web 6; a 4 25 8, b 4 25 12; 1 a 3 4 0, 1 b 3 3 0; "},
		{"report b 7 1x3 2x1", 0, "15 3 25; 1 web 6; a 4 25 8, b 4 25 12; 1 a 3 4 0, 1 b 3 3 0; "},
		{"submit db 1", 0, "16 4 25; 1 web 6, 3 db 1; a 4 25 8, b 4 25 12; 1 a 3 4 0, 1 b 3 3 0, 3 a 1 0 0; "},
		{"report a 15 1x3 2x1", 0, "17 4 25; 1 web 6, 3 db 1; a 4 25 15, b 4 25 12; 1 a 3 3 0, 1 b 3 3 0, 3 a 1 0 0; "},
		{"resize web 2", 0, "18 4 25; 1 web 2, 3 db 1; a 4 25 15, b 4 25 12; 1 a 1 3 0, 1 b 1 3 0, 3 a 1 0 0; "},
		{"resize web 1", 0, "19 4 25; 1 web 1, 3 db 1; a 4 25 15, b 4 25 12; 1 a 1 3 0, 1 b 0 3 19, 3 a 1 0 0; "},
		{"expel a", 0, "20 4 25; 1 web 1, 3 db 1; b 4 25 12; 1 b 1 3 0, 3 b 1 0 0; a"},
		{"join a 4", impl.HubDead, "20 4 25; 1 web 1, 3 db 1; b 4 25 12; 1 b 1 3 0, 3 b 1 0 0; a"},
		{"report a 15", impl.HubNone, "20 4 25; 1 web 1, 3 db 1; b 4 25 12; 1 b 1 3 0, 3 b 1 0 0; a"},
		{"cancel web", 0, "21 4 25; 1 web 1 ends, 3 db 1; b 4 25 12; 1 b 0 3 21, 3 b 1 0 0; a"},
		{"cancel db", 0, "22 4 25; 1 web 1 ends, 3 db 1 ends; b 4 25 12; 1 b 0 3 21, 3 b 0 0 22; a"},
		{"report b 21", 0, "23 4 25; 3 db 1 ends; b 4 25 21; 3 b 0 0 22; a"},
		{"expel b", 0, "24 4 25; ; ; ; a b"},
	} {
		var code int
		if h, code = doneRight(t, h, deedIn(x.deed)); code != x.code || textOfHub(h) != x.then {
			t.Fatalf("%d: %s: %d %s", i, x.deed, code, textOfHub(h))
		}
	}
}

// Whatever the order in which those that held it say that they have nothing of it, a job that ends is there until all of them have, and what is late or told of something else does not count.
func TestWhatEndsIsThereUntilAllHaveSaid(t *testing.T) {
	names := []string{"a", "b", "c"}
	orders(names, func(order []string) {
		h := hubIn("9 3 5; 1 web 9, 2 db 1; a 9 5 9, b 9 5 0, c 9 5 4; 1 a 3 3 0, 1 b 3 3 0, 1 c 3 3 0, 2 a 1 1 0")
		h, _ = doneRight(t, h, deedIn("cancel web"))
		holders := slices.Clone(names)
		for _, name := range order {
			for _, other := range names {
				for _, s := range []string{" 9", " 0", " 10 1x0", " 10 1x3 2x1"} {
					h, _ = doneRight(t, h, deedIn("report "+other+s))
				}
			}
			if got := holdersOf(h, 1); !slices.Equal(got, holders) || len(h.Jobs) != 2 || !h.Jobs[0].Ends {
				t.Fatalf("%v: %v hold, %s", order, got, textOfHub(h))
			}
			h, _ = doneRight(t, h, deedIn("clock "+strconv.Itoa(h.Now+7)))
			h, _ = doneRight(t, h, deedIn("report "+name+" 10 2x1"))
			holders = slices.DeleteFunc(holders, func(s string) bool { return s == name })
		}
		if len(h.Jobs) != 1 || len(holdersOf(h, 1)) != 0 {
			t.Fatalf("%v: %s", order, textOfHub(h))
		}
		// What comes late brings nothing back, nor what comes under the same name.
		h, _ = doneRight(t, h, deedIn("submit web 9"))
		for _, name := range names {
			h, _ = doneRight(t, h, deedIn("report "+name+" 9 1x3"))
		}
		if len(holdersOf(h, 1)) != 0 || h.Jobs[1].Uid != 3 || !slices.Equal(holdersOf(h, 3), names) {
			t.Fatalf("%v: %s", order, textOfHub(h))
		}
	})
}

// holdersOf are the islands that hold this Uid.
func holdersOf(h impl.Hub, uid int) []string {
	out := []string{}
	for _, x := range h.Holds {
		if x.Uid == uid {
			out = append(out, x.Name)
		}
	}
	return out
}

// What is held by whom is not heard goes to the others, and it has its share again once it is heard; so long as nobody is, nothing is placed.
func TestWhoIsNotHeardHasNothing(t *testing.T) {
	h := hubIn("9 2 0; 1 web 12; a 9 0 0, b 9 0 0, c 9 0 0")
	for now := 1; now < 100; now++ {
		h, _ = doneRight(t, h, deedIn("clock "+strconv.Itoa(now)))
		for i, every := range []int{7, 20, 33} {
			if now%every == 0 {
				h, _ = doneRight(t, h, report(h.Posts[i].Island.Name, h.Rev))
			}
		}
		sum := 0
		for i, p := range h.Posts {
			// The third one comes too late each time.
			heard := i < 2 || now%33 <= 20
			if x := h.Holds[i]; (x.Gone == 0) != heard || (x.Copies > 0) != heard || x.Name != p.Island.Name {
				t.Fatalf("%d: %s", now, textOfHub(h))
			}
			sum += h.Holds[i].Copies
		}
		if sum != 12 {
			t.Fatalf("%d: %s", now, textOfHub(h))
		}
	}
	if h, _ = doneRight(t, h, deedIn("clock 200")); len(h.Holds) != 3 || h.Holds[0].Copies+h.Holds[1].Copies+h.Holds[2].Copies != 0 {
		t.Error(textOfHub(h))
	}
}

// Every run of a few deeds answers what the words say.
func TestHubOfAllShortRuns(t *testing.T) {
	var goOn func(h impl.Hub, left int)
	goOn = func(h impl.Hub, left int) {
		if left == 0 {
			return
		}
		rev := strconv.Itoa(h.Rev)
		for _, s := range []string{"submit web 4", "submit db 2", "resize web 1", "resize web 9", "cancel web", "cancel db", "join a 3", "join b 2", "expel a", "clock " + strconv.Itoa(h.Now+15), "report a " + rev, "report a " + rev + " 1x1", "report a " + strconv.Itoa(h.Rev-1), "report b " + rev + " 2x1", "report b " + rev} {
			next, _ := doneRight(t, h, deedIn(s))
			goOn(next, left-1)
		}
	}
	for _, s := range []string{"0 1 0", "2 2 0; 1 web 4; a 3 0 0", "7 3 9; 1 web 4, 2 db 3 ends; a 3 9 5, b 2 0 0; 1 a 2 1 0, 1 b 2 2 0, 2 a 0 1 6, 2 b 0 0 7"} {
		goOn(hubIn(s), 3)
	}
}

// anyDeed is mostly right, and mostly of what is there.
func anyDeed(rnd *rand.Rand, h impl.Hub) deed {
	kinds := []string{"submit", "submit", "submit", "resize", "resize", "cancel", "cancel", "join", "join", "clock", "clock", "clock", "expel"}
	d := deed{What: "report"}
	if n := rnd.Intn(2 * len(kinds)); n < len(kinds) {
		d.What = kinds[n]
	}
	jobs, posts := append(ascendingNames(30), longName), append(ascendingNames(mostIslands+2), "z")
	if d.What == "resize" || d.What == "cancel" {
		if d.Name = jobs[rnd.Intn(len(jobs))]; len(h.Jobs) > 0 && rnd.Intn(8) > 0 {
			d.Name = h.Jobs[rnd.Intn(len(h.Jobs))].Name
		}
	}
	if d.What == "report" || d.What == "expel" {
		if d.Name = posts[rnd.Intn(len(posts))]; len(h.Posts) > 0 && rnd.Intn(15) > 0 {
			d.Name = h.Posts[rnd.Intn(len(h.Posts))].Island.Name
		}
	}
	switch d.What {
	case "submit":
		d = submit(jobs[rnd.Intn(len(jobs))], anyWant(rnd, 30), mapOf("b", anyValue(rnd, 1)))
		for _, name := range anyOf(rnd, 1, posts...) {
			d.Patches = append(d.Patches, impl.Over{Island: name, Ops: []impl.Op{set("a", anyValue(rnd, 2))}})
		}
		if rnd.Intn(15) == 0 {
			d.Patches = append(d.Patches, impl.Over{Island: "z", Ops: []impl.Op{drop("none")}})
		}
	case "resize":
		d.N = anyNumber(rnd, 30)
	case "join":
		d.Island = anyIsland(rnd, 30)
		d.Island.Name = posts[rnd.Intn(len(posts))]
	case "clock":
		d.N = h.Now + rnd.Intn(16) - 1
	case "report":
		d.N = h.Rev - rnd.Intn(3)*rnd.Intn(9) + max(rnd.Intn(30)-28, 0)
		d.Runs = anyRuns(rnd, h, d.Name)
	}
	if rnd.Intn(60) == 0 && d.Name != "" {
		d.Name = wrongNames[rnd.Intn(len(wrongNames))]
	}
	return d
}

// anyRuns are mostly of what this island holds.
func anyRuns(rnd *rand.Rand, h impl.Hub, name string) []impl.Run {
	out, most := []impl.Run{}, 1+rnd.Intn(4)
	for uid := 1; uid < min(h.Next+2, 200); uid++ {
		held := slices.ContainsFunc(h.Holds, func(x impl.Hold) bool { return x.Uid == uid && x.Name == name })
		if len(out) < 70 && (held && rnd.Intn(most) == 0 || rnd.Intn(20) == 0) {
			out = append(out, impl.Run{Uid: uid, N: rnd.Intn(9)})
		}
	}
	if len(out) > 1 && rnd.Intn(40) == 0 {
		out[0], out[1] = out[1], out[0]
	}
	return out
}

// becomes tells in a word what a deed makes of a hold that was there.
func becomes(h impl.Hub, x impl.Hold) string {
	at := slices.IndexFunc(h.Holds, func(y impl.Hold) bool { return y.Uid == x.Uid && y.Name == x.Name })
	switch {
	case at < 0:
		return "no longer there"
	case x.Gone > 0 && h.Holds[at].Gone > 0:
		return "stays taken away"
	case x.Gone > 0:
		return "comes again"
	case h.Holds[at].Gone > 0:
		return "goes"
	case h.Holds[at].Copies > x.Copies:
		return "grows"
	case h.Holds[at].Copies < x.Copies:
		return "shrinks"
	}
	return "stays"
}

func TestHubOfManyDeeds(t *testing.T) {
	rnd := rand.New(rand.NewSource(11))
	codes, seen, owners := map[int]int{}, map[string]int{}, map[int]string{}
	for i := range 45 {
		h := impl.HubNew()
		if i%5 == 4 {
			h.Rev, h.Next = mostRev-[]int{90, 900}[i%2], mostRev-[]int{900, 12}[i%2]
		}
		clear(owners)
		for range 170 {
			d := anyDeed(rnd, h)
			next, code := doneRight(t, h, d)
			codes[code]++
			for _, x := range h.Holds {
				seen[becomes(next, x)]++
			}
			for _, j := range next.Jobs {
				if name, old := owners[j.Uid]; old && name != j.Name || !old && j.Uid != h.Next {
					t.Fatalf("%s: the Uid %d was of %q", d, j.Uid, name)
				}
				owners[j.Uid] = j.Name
			}
			if len(next.Jobs) < len(h.Jobs) {
				seen["a job is gone"]++
			}
			h = next
		}
	}
	for code := impl.HubGood; code <= impl.HubDead; code++ {
		if codes[code] < 50 {
			t.Error("too few were tried:", code, codes[code])
		}
	}
	for _, what := range []string{"no longer there", "stays taken away", "comes again", "goes", "grows", "shrinks", "stays", "a job is gone"} {
		if seen[what] < 50 {
			t.Error("too few were tried:", what, seen[what])
		}
	}
}

// sharingHub is usual, right, and what may share its lists does.
func sharingHub() impl.Hub {
	h := usual()
	kid := mapOf("a b", listOf(numOf(1)), listOf(listOf()))
	spec := mapOf("a b c", kid, kid, kid.Kids[0])
	path := steps("a/b")
	patches := []impl.Over{{Island: "a", Ops: []impl.Op{{Kind: impl.OpSet, Path: path, Value: spec.Kids[0]}, {Kind: impl.OpSet, Path: path, Value: kid}}}}
	patches = append(patches, impl.Over{Island: "b", Ops: patches[0].Ops})
	names := []string{"lead", "tin"}
	for i := range h.Jobs {
		h.Jobs[i].Want, h.Jobs[i].Spec, h.Jobs[i].Patches = h.Jobs[0].Want, spec, patches
		h.Jobs[i].Want.Bears = names
		h.Jobs[i].Want.Select = []impl.Term{{Kind: impl.TermIn, Key: "zone", Values: []string{"east", "west"}}, {Kind: impl.TermNot, Key: "lead", Values: names[:1]}}
	}
	for i := range h.Posts {
		h.Posts[i].Island.Labels, h.Posts[i].Island.Spots = h.Posts[0].Island.Labels, names[1:]
	}
	h.Dead = names
	return h
}

// What a deed answers shares nothing with its arguments, and no two lists of it are one, whatever its code; and nothing of it is kept.
func TestHubsAreNewMemory(t *testing.T) {
	shared := sharingHub()
	broken, atRev := sharingHub(), sharingHub()
	broken.Holds[5].Runs, atRev.Rev = -1, mostRev
	deeds := append(someDeeds(), submit("new", shared.Jobs[0].Want, shared.Jobs[0].Spec, shared.Jobs[0].Patches...), join(impl.Island{Name: "d", Labels: shared.Posts[0].Island.Labels, Spots: shared.Dead, Room: 9}), deedIn("join lead 4"))
	codes := map[int]bool{}
	for _, h := range []impl.Hub{shared, broken, atRev, roomyCopy(usual()), roomyCopy(crowded(mostJobs, mostIslands, mostDead))} {
		for _, d := range deeds {
			before, given := wholeCopy(h), wholeCopy(d)
			got, code := d.at(h)
			codes[code] = true
			lists := memoryOf(got)
			if !allApart(lists) || sharesAny(lists, memoryOf(h)) || sharesAny(lists, memoryOf(d)) {
				t.Fatalf("%s, %d: a list is shared", d, code)
			}
			kept := plainCopy(got)
			scribbled(got)
			if !reflect.DeepEqual(wholeCopy(h), before) || !reflect.DeepEqual(wholeCopy(d), given) {
				t.Fatalf("%s, %d: an argument changed with its answer", d, code)
			}
			if again, _ := d.at(h); !sameAll(again, kept) {
				t.Fatalf("%s, %d: an answer was kept", d, code)
			}
		}
	}
	if len(codes) != 6 || !impl.HubOk(shared) {
		t.Error("not every code was tried:", codes)
	}
	for _, d := range deeds {
		h, given := usual(), roomyCopy(d)
		got, _ := given.at(h)
		kept := plainCopy(got)
		scribbled(h)
		scribbled(given)
		if !sameAll(got, kept) {
			t.Fatalf("%s: the answer changed with its arguments", d)
		}
	}
}

// What lies behind a list's length is not read.
func TestBehindTheLengthOfHubs(t *testing.T) {
	for why, h := range rightHubs() {
		roomy := roomyCopy(h)
		kept := wholeCopy(roomy)
		if !impl.HubOk(roomy) || !reflect.DeepEqual(wholeCopy(roomy), kept) {
			t.Error(why)
		}
	}
	all := crowded(mostJobs+3, mostIslands+3, mostDead+3)
	for n := range mostJobs + 3 {
		h := all
		h.Jobs, h.Posts, h.Dead, h.Holds = h.Jobs[:n], h.Posts[:min(n, mostIslands+1)], h.Dead[:n], nil
		if impl.HubOk(h) != (n <= mostIslands) {
			t.Error(n)
		}
	}
	runs := runsIn(strings.Fields("1x3 2x2 2x1 1x9"))
	for n := range 5 {
		if _, code := impl.Report(usual(), "a", 40, runs[:n]); (code == impl.HubGood) != (n <= 2) {
			t.Error(n, code)
		}
	}
}

// Whatever the values of a hub are, it comes back where a deed is refused, and every call ends.
func TestHubsOfValuesWithoutEnd(t *testing.T) {
	one := numOf(1)
	for what, v := range map[string]impl.Value{"a ring of one": ring(1, one), "a ring of five": ring(5, one), "rings in rings": ring(3, ring(2, ring(1, one))), "doubled": doubled(70, one), "deep": nested(one, 100000, false), "many": listOf(many(100000, one)...)} {
		h := hubWith(func(h *impl.Hub) { h.Jobs[1].Spec, h.Jobs[0].Patches[0].Ops[0].Value = v, v })
		for _, part := range []impl.Hub{h, {Next: 7, Jobs: h.Jobs[:1]}, {Next: 7, Jobs: h.Jobs[1:]}} {
			if impl.HubOk(part) {
				t.Error(what, "is taken")
			}
		}
		for _, s := range []string{"submit new 5", "resize web 5", "cancel job", "join d 5", "expel a", "clock 31", "report a 40"} {
			got, code := deedIn(s).at(h)
			if code != impl.HubForm || got.Rev != h.Rev || len(got.Jobs) != 3 || len(got.Holds) != 6 || !impl.SameValue(got.Jobs[1].Spec, v) || !impl.SameValue(got.Jobs[0].Patches[0].Ops[0].Value, v) {
				t.Errorf("%s: %s: %d", what, s, code)
			}
		}
		patch := []impl.Over{{Island: "a", Ops: []impl.Op{set("image", v)}}}
		for _, d := range []deed{submit("new", impl.Want{}, v), submit("web", impl.Want{}, v), submit("new", impl.Want{}, webSpec(), patch...), submit("new", impl.Want{}, v, patch...)} {
			if got, code := d.at(usual()); code != impl.HubForm || !sameAll(got, usual()) {
				t.Errorf("%s: %d", what, code)
			}
		}
	}
}

// However long the lists and texts are, every call ends.
func TestVeryLongHubs(t *testing.T) {
	far, h := strings.Repeat("a", 1000000), usual()
	jobs := slices.Repeat(h.Jobs[1:2], 10000)
	for what, x := range map[string]impl.Hub{
		"jobs": {Next: 9, Jobs: jobs}, "posts": {Next: 9, Now: 50, Rev: 50, Posts: slices.Repeat(h.Posts, 10000)}, "holds": {Next: 9, Holds: slices.Repeat(h.Holds, 100000)}, "dead": {Next: 9, Dead: slices.Repeat([]string{"x"}, 1000000)}, "a long dead": {Next: 9, Dead: []string{far}},
		"patches": {Next: 9, Jobs: []impl.Job{{Uid: 1, Name: "a", Spec: mapOf(""), Patches: slices.Repeat(oversOf("a"), 100000)}}}, "ops": {Next: 9, Jobs: []impl.Job{{Uid: 1, Name: "a", Spec: mapOf(""), Patches: []impl.Over{{Island: "a", Ops: slices.Repeat([]impl.Op{set("a", numOf(1))}, 10000)}}}}}, "a long name": {Next: 9, Jobs: []impl.Job{{Uid: 1, Name: far, Spec: mapOf("")}}},
	} {
		for _, s := range []string{"submit new 5", "resize web 5", "cancel job", "join d 5", "expel a", "clock 51", "report a 0"} {
			got, code := deedIn(s).at(x)
			if code != impl.HubForm || impl.HubOk(x) || len(got.Jobs) != len(x.Jobs) || len(got.Posts) != len(x.Posts) || len(got.Holds) != len(x.Holds) || len(got.Dead) != len(x.Dead) {
				t.Error(what, s, code)
			}
		}
	}
	ops := []impl.Over{{Island: "a", Ops: slices.Repeat([]impl.Op{set("a", numOf(1))}, 100000)}}
	for _, d := range []deed{submit(far, impl.Want{}, mapOf("")), submit("new", impl.Want{}, mapOf(""), slices.Repeat(oversOf("a"), 100000)...), submit("new", impl.Want{}, mapOf(""), ops...), submit("new", impl.Want{}, mapOf(""), oversOf(far)...), deedIn("cancel " + far), deedIn("expel " + far), deedIn("resize " + far + " 1"), deedIn("report " + far + " 1"), report("a", 40, slices.Repeat([]impl.Run{{Uid: 1, N: 1}}, 1000000)...), join(impl.Island{Name: far})} {
		if got, code := d.at(h); code != impl.HubForm || !sameAll(got, h) {
			t.Errorf("%s: %d", d, code)
		}
	}
}
