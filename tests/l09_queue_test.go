package tests

import (
	"math"
	"math/rand"
	"slices"
	"strconv"
	"strings"
	"testing"

	"loop.example/g00119/impl"
)

// Promise 9: a name is never taken twice at once; what fails comes again, later each time.

const (
	mostQueue = 60
	mostDelay = 64
	mostClock = 1000000
	mostFails = 1000
)

// queueIn reads a queue: Now, a colon, Items, Doing and Again with semicolons between; an item is its name, behind @ its Ready and behind # its Fails, where they are not 0.
func queueIn(s string) impl.Queue {
	now, lists, _ := strings.Cut(s, ":")
	parts := strings.Split(lists, ";")
	return impl.Queue{Items: itemsIn(parts[0]), Doing: itemsIn(parts[1]), Again: strings.Fields(parts[2]), Now: numbersIn(now)[0]}
}

func itemsIn(s string) []impl.Item {
	out := []impl.Item{}
	for _, w := range strings.Fields(s) {
		w, fails, _ := strings.Cut(w, "#")
		name, ready, _ := strings.Cut(w, "@")
		x := impl.Item{Name: name}
		x.Ready, _ = strconv.Atoi(ready)
		x.Fails, _ = strconv.Atoi(fails)
		out = append(out, x)
	}
	return out
}

func textOfQueue(q impl.Queue) string {
	return strconv.Itoa(q.Now) + ": " + textOfItems(q.Items) + "; " + textOfItems(q.Doing) + "; " + strings.Join(q.Again, " ")
}

func textOfItems(list []impl.Item) string {
	out := []string{}
	for _, x := range list {
		s := x.Name
		if x.Ready != 0 {
			s += "@" + strconv.Itoa(x.Ready)
		}
		if x.Fails != 0 {
			s += "#" + strconv.Itoa(x.Fails)
		}
		out = append(out, s)
	}
	return strings.Join(out, " ")
}

func sameQueues(a, b impl.Queue) bool {
	return a.Now == b.Now && slices.Equal(a.Items, b.Items) && slices.Equal(a.Doing, b.Doing) && slices.Equal(a.Again, b.Again)
}

func copiedQueue(q impl.Queue) impl.Queue {
	return impl.Queue{Items: append([]impl.Item{}, q.Items...), Doing: append([]impl.Item{}, q.Doing...), Again: append([]string{}, q.Again...), Now: q.Now}
}

// queueCall is one of the calls: put, take, well and fail (of Done), pass or next. What it does not take stays empty.
type queueCall struct {
	what string
	name string
	now  int
}

// queueCallIn reads a call and what it takes.
func queueCallIn(s string) queueCall {
	what, of, _ := strings.Cut(s, " ")
	if what == "pass" {
		now, _ := strconv.Atoi(of)
		return queueCall{what: what, now: now}
	}
	return queueCall{what: what, name: of}
}

// queueAnswer is what a call answers; next answers at, and what it was asked of.
type queueAnswer struct {
	q    impl.Queue
	name string
	ok   bool
	at   int
}

// told is what is answered beside the queue, as text.
func (a queueAnswer) told(what string) string {
	switch {
	case what == "next":
		return strconv.Itoa(a.at)
	case what == "pass":
		return ""
	case a.ok:
		return strings.TrimSpace("yes " + a.name)
	}
	return strings.TrimSpace("no " + a.name)
}

func sameAnswers(a, b queueAnswer) bool {
	return a.name == b.name && a.ok == b.ok && a.at == b.at && sameQueues(a.q, b.q)
}

// at asks the program.
func (c queueCall) at(q impl.Queue) queueAnswer {
	a := queueAnswer{}
	switch c.what {
	case "put":
		a.q, a.ok = impl.Put(q, c.name)
	case "take":
		a.q, a.name, a.ok = impl.Take(q)
	case "pass":
		a.q = impl.Pass(q, c.now)
	case "next":
		a.q, a.at = q, impl.NextAt(q)
	default:
		a.q, a.ok = impl.Done(q, c.name, c.what == "well")
	}
	return a
}

// The document's words once more.

func isQueue(q impl.Queue) bool {
	if len(q.Items) > 60 || len(q.Doing) > 60 || q.Now < 0 || q.Now > 1000000 {
		return false
	}
	met, taken := map[string]int{}, map[string]int{}
	for i, x := range slices.Concat(q.Items, q.Doing) {
		met[x.Name]++
		most := 1000064
		if i >= len(q.Items) {
			most = 0
			taken[x.Name]++
		}
		if met[x.Name] > 1 || !isName.MatchString(x.Name) || x.Ready < 0 || x.Ready > most || x.Fails < 0 || x.Fails > 1000 {
			return false
		}
	}
	for _, name := range q.Again {
		if taken[name] != 1 {
			return false
		}
		taken[name]++
	}
	return true
}

// partedBy are the items of this name, and the others.
func partedBy(list []impl.Item, name string) (those, others []impl.Item) {
	for _, x := range list {
		if x.Name == name {
			those = append(those, x)
		} else {
			others = append(others, x)
		}
	}
	return those, others
}

var delaysByWords = []int{1, 2, 4, 8, 16, 32, 64}

// behindItems is q with x behind Items, where there is room.
func behindItems(q impl.Queue, x impl.Item) (impl.Queue, bool) {
	if len(q.Items) == 60 {
		return q, false
	}
	q.Items = append(slices.Clone(q.Items), x)
	return q, true
}

// byWords is what a call must answer.
func (c queueCall) byWords(q impl.Queue) queueAnswer {
	if !isQueue(q) || c.what != "take" && c.what != "pass" && c.what != "next" && !isName.MatchString(c.name) {
		return queueAnswer{q: q}
	}
	switch c.what {
	case "put":
		return c.putByWords(q)
	case "take":
		return takenByWords(q)
	case "well", "fail":
		return c.doneByWords(q)
	case "pass":
		if q.Now < c.now && c.now <= 1000000 {
			q.Now = c.now
		}
		return queueAnswer{q: q}
	}
	readys := []int{}
	for _, x := range q.Items {
		readys = append(readys, max(x.Ready, q.Now))
	}
	if len(readys) == 0 {
		return queueAnswer{q: q, at: -1}
	}
	return queueAnswer{q: q, at: slices.Min(readys)}
}

func (c queueCall) putByWords(q impl.Queue) queueAnswer {
	taken, _ := partedBy(q.Doing, c.name)
	waiting, _ := partedBy(q.Items, c.name)
	ok := true
	switch {
	case len(taken) == 1 && slices.Contains(q.Again, c.name):
	case len(taken) == 1:
		q.Again = append(slices.Clone(q.Again), c.name)
	case len(waiting) == 1:
		q.Items = slices.Clone(q.Items)
		for i, x := range q.Items {
			if x.Name == c.name && x.Ready > q.Now {
				q.Items[i].Ready = q.Now
			}
		}
	default:
		q, ok = behindItems(q, impl.Item{Name: c.name, Ready: q.Now})
	}
	return queueAnswer{q: q, ok: ok}
}

func takenByWords(q impl.Queue) queueAnswer {
	for _, x := range q.Items {
		if x.Ready <= q.Now && len(q.Doing) < 60 {
			_, q.Items = partedBy(q.Items, x.Name)
			q.Doing = append(slices.Clone(q.Doing), impl.Item{Name: x.Name, Fails: x.Fails})
			return queueAnswer{q: q, name: x.Name, ok: true}
		}
	}
	return queueAnswer{q: q}
}

func (c queueCall) doneByWords(q impl.Queue) queueAnswer {
	those, others := partedBy(q.Doing, c.name)
	if len(those) == 0 {
		return queueAnswer{q: q}
	}
	again := []string{}
	for _, name := range q.Again {
		if name != c.name {
			again = append(again, name)
		}
	}
	came := len(again) < len(q.Again)
	q.Doing, q.Again = others, again
	x := impl.Item{Name: c.name, Ready: q.Now}
	if c.what == "fail" {
		x.Fails = min(those[0].Fails+1, 1000)
		x.Ready += delaysByWords[min(x.Fails, 7)-1]
	}
	if c.what == "fail" || came {
		q, _ = behindItems(q, x)
	}
	return queueAnswer{q: q, ok: true}
}

// queueRight asks the program for what the words say, and tells the answer.
func queueRight(t *testing.T, q impl.Queue, c queueCall) queueAnswer {
	t.Helper()
	kept := copiedQueue(q)
	want, got := c.byWords(q), c.at(q)
	if !sameAnswers(got, want) {
		t.Fatalf("%v of %.300s: %q %.300s, not %q %.300s", c, textOfQueue(kept), got.told(c.what), textOfQueue(got.q), want.told(c.what), textOfQueue(want.q))
	}
	if !sameQueues(q, kept) {
		t.Fatalf("%v of %.300s: the queue was changed", c, textOfQueue(kept))
	}
	if isQueue(q) && !impl.QueueOk(got.q) {
		t.Fatalf("%v of %.300s: %.300s is not right", c, textOfQueue(kept), textOfQueue(got.q))
	}
	return got
}

func TestQueueConstants(t *testing.T) {
	if impl.MaxQueue != mostQueue || impl.MaxDelay != mostDelay || impl.MaxClock != mostClock {
		t.Error(impl.MaxQueue, impl.MaxDelay, impl.MaxClock)
	}
}

// itemsNamed are n items, whose names begin like this.
func itemsNamed(head string, n int) []impl.Item {
	out := []impl.Item{}
	for _, name := range ascendingNames(n) {
		out = append(out, impl.Item{Name: head + name})
	}
	return out
}

// crowdedQueue has so many Items and in Doing, every third of which came again.
func crowdedQueue(items, doing int) impl.Queue {
	q := impl.Queue{Items: itemsNamed("i", items), Doing: itemsNamed("d", doing), Now: 500}
	for i := range q.Items {
		q.Items[i].Ready, q.Items[i].Fails = 490+i%20, i%9
	}
	for i := range q.Doing {
		q.Doing[i].Fails = i % 9
		if i%3 == 0 {
			q.Again = append(q.Again, q.Doing[i].Name)
		}
	}
	return q
}

const usualQueue = "5: a b@9#2 c@5#1; d#3 e; d"

// queueWith is the usual queue, changed.
func queueWith(change func(q *impl.Queue)) impl.Queue {
	q := queueIn(usualQueue)
	change(&q)
	return q
}

// rightQueues are right, by what they are there for.
func rightQueues() map[string]impl.Queue {
	out := map[string]impl.Queue{
		"the zero queue": {}, "empty lists": queueIn("0: ; ; "), "the usual one": queueIn(usualQueue),
		"MaxQueue Items": crowdedQueue(mostQueue, 0), "MaxQueue in Doing": crowdedQueue(0, mostQueue), "MaxQueue of both": crowdedQueue(mostQueue, mostQueue), "one fewer of both": crowdedQueue(mostQueue-1, mostQueue-1),
		"names in no order": {Items: itemsIn("c a b"), Doing: itemsIn("z f y"), Again: []string{"y", "z", "f"}},
		"the longest name":  {Items: []impl.Item{{Name: longName}}, Doing: []impl.Item{{Name: longName[1:]}}, Again: []string{longName[1:]}},
	}
	all := crowdedQueue(mostQueue, mostQueue)
	all.Again = nil
	for _, x := range all.Doing {
		all.Again = append(all.Again, x.Name)
	}
	out["all of Doing came again"] = all
	for _, s := range []string{
		"0: a; ; ", "0: ; a; ", "0: ; a; a", "7: ; a b c; c a", "3: a#999; b#1000; ", "3: a#1000; b#999; b",
		"0: a@1000064; ; ", "1000000: a@1000064 b@1000000 c; d; d", "1000000: ; ; ", "999999: a@1000000; b; ", "1000000: a@1#5; ; ", "9: a@10 b@11; c; ", "9: a@9 b@8; c; ",
	} {
		out[s] = queueIn(s)
	}
	return out
}

// wrongQueues are not right, by what is wrong with them.
func wrongQueues() map[string]impl.Queue {
	out := map[string]impl.Queue{
		"one more than MaxQueue Items": crowdedQueue(mostQueue+1, 0), "one more than MaxQueue in Doing": crowdedQueue(0, mostQueue+1), "one more of both": crowdedQueue(mostQueue+1, mostQueue+1), "far more Items": crowdedQueue(1000, 1), "far more in Doing": crowdedQueue(1, 1000),
		"alike, far apart in Items": queueWith(func(q *impl.Queue) { q.Items[2] = q.Items[0] }), "one of Items often": {Items: slices.Repeat(itemsIn("a"), mostQueue)},
		"Again without Doing": {Again: []string{"a"}}, "Again of far too many": queueWith(func(q *impl.Queue) { q.Again = slices.Repeat(q.Again, 1000) }),
		"an empty item": {Items: []impl.Item{{}}}, "an empty one of Doing": {Doing: []impl.Item{{}}}, "an empty one of Again": queueWith(func(q *impl.Queue) { q.Again = append(q.Again, "") }),
	}
	for _, s := range []string{
		"0: a a; ; ", "9: a@1 b a@2#1; ; ", "0: ; a a; ", "0: ; a b a#1; ", "0: ; a a; a", "0: ; a a; a a", "0: a; a; ", "0: b a; c a; ", "0: a@3#1; a; a", "0: a; b b a; b",
		"0: a; ; a", "0: a; b; a", "0: a; b; c", "0: a; b; b a", "0: a; b c; b c b", "0: ; b; b b", "0: ; b; b b b", "0: ; ; b",
	} {
		out[s] = queueIn(s)
	}
	for _, name := range wrongNames {
		for _, i := range []int{0, 2} {
			out["of Items, "+strconv.Itoa(i)+": "+name] = queueWith(func(q *impl.Queue) { q.Items[i].Name = name })
		}
		out["of Doing: "+name] = queueWith(func(q *impl.Queue) { q.Doing[1].Name = name })
		out["of Doing and Again: "+name] = queueWith(func(q *impl.Queue) { q.Doing[0].Name, q.Again[0] = name, name })
		out["of Again: "+name] = queueWith(func(q *impl.Queue) { q.Again = append(q.Again, name) })
	}
	for _, n := range []int{-1, -2, math.MinInt, math.MaxInt, 1 << 32, 1<<32 + 1, -1 << 32, 1 << 62, mostClock + mostDelay + 1} {
		s := strconv.Itoa(n)
		out["a Now of "+s] = queueWith(func(q *impl.Queue) { q.Now = n })
		out["nothing, and a Now of "+s] = impl.Queue{Now: n}
		for i := range 3 {
			out["place "+strconv.Itoa(i)+", a Ready of "+s] = queueWith(func(q *impl.Queue) { q.Items[i].Ready = n })
			out["place "+strconv.Itoa(i)+", Fails of "+s] = queueWith(func(q *impl.Queue) { q.Items[i].Fails = n })
		}
		for i := range 2 {
			out["in Doing, place "+strconv.Itoa(i)+", a Ready of "+s] = queueWith(func(q *impl.Queue) { q.Doing[i].Ready = n })
			out["in Doing, place "+strconv.Itoa(i)+", Fails of "+s] = queueWith(func(q *impl.Queue) { q.Doing[i].Fails = n })
		}
	}
	out["a Now above MaxClock"] = queueWith(func(q *impl.Queue) { q.Now = mostClock + 1 })
	out["a Now of the greatest Ready"] = queueWith(func(q *impl.Queue) { q.Now = mostClock + mostDelay })
	for i := range 2 {
		for _, n := range []int{1, 5, mostClock, mostClock + mostDelay} {
			out["in Doing, place "+strconv.Itoa(i)+", a Ready of "+strconv.Itoa(n)] = queueWith(func(q *impl.Queue) { q.Doing[i].Ready = n })
		}
		out["in Doing, place "+strconv.Itoa(i)+", one Fail too many"] = queueWith(func(q *impl.Queue) { q.Doing[i].Fails = mostFails + 1 })
		out["place "+strconv.Itoa(i)+", one Fail too many"] = queueWith(func(q *impl.Queue) { q.Items[i].Fails = mostFails + 1 })
	}
	return out
}

func TestQueueOk(t *testing.T) {
	tellsApart(t, rightQueues(), wrongQueues(), isQueue, impl.QueueOk)
	for n := mostQueue - 1; n <= mostQueue+2; n++ {
		for m := mostQueue - 1; m <= mostQueue+2; m++ {
			if impl.QueueOk(crowdedQueue(n, m)) != (n <= mostQueue && m <= mostQueue) {
				t.Error(n, "Items,", m, "in Doing")
			}
		}
	}
}

// rowsOf are all rows of up to two of these names.
func rowsOf(names ...string) [][]string {
	out := [][]string{nil}
	for _, a := range names {
		out = append(out, []string{a})
		for _, b := range names {
			out = append(out, []string{a, b})
		}
	}
	return out
}

func TestQueueOkOfAllSmallRows(t *testing.T) {
	rows, right := rowsOf("a", "b", "c", "-"), 0
	for _, items := range rows {
		for _, doing := range rows {
			for _, again := range rows {
				q := impl.Queue{Items: itemsIn(strings.Join(items, " ")), Doing: itemsIn(strings.Join(doing, " ")), Again: again}
				if impl.QueueOk(q) != isQueue(q) {
					t.Fatalf("%s: %v", textOfQueue(q), impl.QueueOk(q))
				}
				if isQueue(q) {
					right++
				}
			}
		}
	}
	if right < 50 {
		t.Error("too few were tried:", right)
	}
}

func TestQueueOkOfNumbersAtTheLimits(t *testing.T) {
	most := map[string]int{"Now": mostClock, "Ready": mostClock + mostDelay, "Fails": mostFails, "Fails in Doing": mostFails, "Ready in Doing": 0}
	put := map[string]func(q *impl.Queue, n int){
		"Now": func(q *impl.Queue, n int) { q.Now = n }, "Ready": func(q *impl.Queue, n int) { q.Items[1].Ready = n }, "Fails": func(q *impl.Queue, n int) { q.Items[2].Fails = n },
		"Fails in Doing": func(q *impl.Queue, n int) { q.Doing[0].Fails = n }, "Ready in Doing": func(q *impl.Queue, n int) { q.Doing[1].Ready = n },
	}
	for what, limit := range most {
		for _, n := range []int{-2, -1, 0, 1, limit / 2, limit - 1, limit, limit + 1, limit + 2, mostClock, mostClock + mostDelay, mostClock + mostDelay + 1, mostFails, mostFails + 1} {
			q := queueWith(func(q *impl.Queue) { put[what](q, n) })
			if impl.QueueOk(q) != (0 <= n && n <= limit) {
				t.Errorf("%s of %d: %v", what, n, impl.QueueOk(q))
			}
		}
	}
}

// queuesByHand are calls with what they must answer, and what the queue is then.
var queuesByHand = map[string][]struct{ queue, call, told, then string }{
	"put of a new one": {
		{"0: ; ; ", "put a", "yes", "0: a; ; "}, {"7: ; ; ", "put a", "yes", "7: a@7; ; "}, {"1000000: ; ; ", "put a", "yes", "1000000: a@1000000; ; "},
		{"7: c@9#4; b#2; b", "put a", "yes", "7: c@9#4 a@7; b#2; b"}, {"0: b; ; ", "put a", "yes", "0: b a; ; "}, {"0: aa a-a a0; ab; ", "put a", "yes", "0: aa a-a a0 a; ab; "},
	},
	"put of one of Items": {
		{"5: a@9; ; ", "put a", "yes", "5: a@5; ; "}, {"5: a@6#3; ; ", "put a", "yes", "5: a@5#3; ; "}, {"5: a@5#3; ; ", "put a", "yes", "5: a@5#3; ; "}, {"5: a@4#3; ; ", "put a", "yes", "5: a@4#3; ; "}, {"5: a; ; ", "put a", "yes", "5: a; ; "},
		{"5: b@9 a@9#1 c@9; d; d", "put a", "yes", "5: b@9 a@5#1 c@9; d; d"}, {"5: b@9 c@9 a@1000064#1000; ; ", "put a", "yes", "5: b@9 c@9 a@5#1000; ; "}, {"0: a@1; ; ", "put a", "yes", "0: a; ; "},
	},
	"put of one of Doing": {
		{"5: ; a; ", "put a", "yes", "5: ; a; a"}, {"5: ; a#3; a", "put a", "yes", "5: ; a#3; a"}, {"5: ; a b; b", "put a", "yes", "5: ; a b; b a"}, {"5: ; a b c; b c", "put b", "yes", "5: ; a b c; b c"}, {"5: ; a b c; c a", "put a", "yes", "5: ; a b c; c a"}, {"5: x@9; a b c; c", "put b", "yes", "5: x@9; a b c; c b"},
	},
	"take": {
		{"0: ; ; ", "take", "no", "0: ; ; "}, {"9: ; a; a", "take", "no", "9: ; a; a"}, {"5: a; ; ", "take", "yes a", "5: ; a; "}, {"5: a@5#7; ; ", "take", "yes a", "5: ; a#7; "}, {"5: a@6; ; ", "take", "no", "5: a@6; ; "}, {"5: a@4; b; b", "take", "yes a", "5: ; b a; b"},
		{"5: a@6 b@5; ; ", "take", "yes b", "5: a@6; b; "}, {"5: a@6 b@5 c@4; ; ", "take", "yes b", "5: a@6 c@4; b; "}, {"5: a@6 b@7 c; d; ", "take", "yes c", "5: a@6 b@7; d c; "}, {"5: a@6 b@7 c@1000064; ; ", "take", "no", "5: a@6 b@7 c@1000064; ; "},
		{"5: b a; ; ", "take", "yes b", "5: a; b; "}, {"5: b@5 a@4; ; ", "take", "yes b", "5: a@4; b; "}, {"0: a@1; ; ", "take", "no", "0: a@1; ; "}, {"1000000: a@1000001 b@1000000; ; ", "take", "yes b", "1000000: a@1000001; b; "},
	},
	"done of what was not taken": {
		{"5: a; ; ", "well a", "no", "5: a; ; "}, {"5: a; ; ", "fail a", "no", "5: a; ; "}, {"5: a; b; b", "well a", "no", "5: a; b; b"}, {"5: a; b; b", "fail a", "no", "5: a; b; b"}, {"0: ; ; ", "well a", "no", "0: ; ; "}, {"0: ; ; ", "fail a", "no", "0: ; ; "}, {"5: a; b; b", "well c", "no", "5: a; b; b"}, {"5: a; b; b", "fail c", "no", "5: a; b; b"},
	},
	"done well": {
		{"5: ; a; ", "well a", "yes", "5: ; ; "}, {"5: ; a#7; ", "well a", "yes", "5: ; ; "}, {"5: x; a b c; ", "well b", "yes", "5: x; a c; "}, {"5: x; a b c; c a", "well b", "yes", "5: x; a c; c a"},
		{"5: ; a; a", "well a", "yes", "5: a@5; ; "}, {"5: ; a#7; a", "well a", "yes", "5: a@5; ; "}, {"0: ; a#1000; a", "well a", "yes", "0: a; ; "}, {"5: x@9#2; a b c; c b a", "well b", "yes", "5: x@9#2 b@5; a c; c a"}, {"1000000: ; a; a", "well a", "yes", "1000000: a@1000000; ; "},
	},
	"done, and not well": {
		{"5: ; a; ", "fail a", "yes", "5: a@6#1; ; "}, {"5: ; a; a", "fail a", "yes", "5: a@6#1; ; "}, {"5: ; a#1; ", "fail a", "yes", "5: a@7#2; ; "}, {"5: ; a#1; a", "fail a", "yes", "5: a@7#2; ; "}, {"0: ; a#2; ", "fail a", "yes", "0: a@4#3; ; "}, {"0: ; a#3; ", "fail a", "yes", "0: a@8#4; ; "}, {"0: ; a#4; ", "fail a", "yes", "0: a@16#5; ; "}, {"0: ; a#5; ", "fail a", "yes", "0: a@32#6; ; "},
		{"5: ; a#6; ", "fail a", "yes", "5: a@69#7; ; "}, {"5: ; a#7; ", "fail a", "yes", "5: a@69#8; ; "}, {"5: ; a#8; a", "fail a", "yes", "5: a@69#9; ; "}, {"5: ; a#61; ", "fail a", "yes", "5: a@69#62; ; "}, {"5: ; a#62; ", "fail a", "yes", "5: a@69#63; ; "}, {"5: ; a#63; ", "fail a", "yes", "5: a@69#64; ; "}, {"5: ; a#64; ", "fail a", "yes", "5: a@69#65; ; "},
		{"5: ; a#998; ", "fail a", "yes", "5: a@69#999; ; "}, {"5: ; a#999; ", "fail a", "yes", "5: a@69#1000; ; "}, {"5: ; a#1000; ", "fail a", "yes", "5: a@69#1000; ; "}, {"5: ; a#1000; a", "fail a", "yes", "5: a@69#1000; ; "}, {"1000000: ; a#6; ", "fail a", "yes", "1000000: a@1000064#7; ; "}, {"1000000: ; a#1000; a", "fail a", "yes", "1000000: a@1000064#1000; ; "},
		{"5: x@9 y; a b#2 c; c b a", "fail b", "yes", "5: x@9 y b@9#3; a c; c a"}, {"5: x@9 y; a b#2 c; c", "fail b", "yes", "5: x@9 y b@9#3; a c; c"},
	},
	"pass": {
		{"5: a@9#1; b; b", "pass 4", "", "5: a@9#1; b; b"}, {"5: a@9#1; b; b", "pass 5", "", "5: a@9#1; b; b"}, {"5: a@9#1; b; b", "pass 6", "", "6: a@9#1; b; b"}, {"5: a; b; ", "pass 999999", "", "999999: a; b; "}, {"5: a; b; ", "pass 1000000", "", "1000000: a; b; "}, {"5: a; b; ", "pass 1000001", "", "5: a; b; "}, {"5: a; b; ", "pass 1000064", "", "5: a; b; "},
		{"5: a; b; ", "pass 0", "", "5: a; b; "}, {"5: a; b; ", "pass -1", "", "5: a; b; "}, {"0: ; ; ", "pass 0", "", "0: ; ; "}, {"0: ; ; ", "pass 1", "", "1: ; ; "}, {"0: ; ; ", "pass -1", "", "0: ; ; "}, {"1000000: ; ; ", "pass 1000000", "", "1000000: ; ; "}, {"1000000: ; ; ", "pass 1000001", "", "1000000: ; ; "}, {"1000000: ; ; ", "pass 999999", "", "1000000: ; ; "}, {"999999: ; ; ", "pass 1000000", "", "1000000: ; ; "},
		{"5: ; ; ", "pass 9223372036854775807", "", "5: ; ; "}, {"5: ; ; ", "pass -9223372036854775808", "", "5: ; ; "}, {"5: ; ; ", "pass 4294967302", "", "5: ; ; "},
	},
	"next": {
		{"0: ; ; ", "next", "-1", "0: ; ; "}, {"9: ; a; a", "next", "-1", "9: ; a; a"}, {"5: a; ; ", "next", "5", "5: a; ; "}, {"5: a@5; ; ", "next", "5", "5: a@5; ; "}, {"5: a@4 b@3; ; ", "next", "5", "5: a@4 b@3; ; "}, {"5: a@9 b@3; ; ", "next", "5", "5: a@9 b@3; ; "}, {"5: a@4 b@9; ; ", "next", "5", "5: a@4 b@9; ; "},
		{"5: a@6; ; ", "next", "6", "5: a@6; ; "}, {"5: a@9 b@7 c@8; ; ", "next", "7", "5: a@9 b@7 c@8; ; "}, {"5: a@9 b@8 c@7; ; ", "next", "7", "5: a@9 b@8 c@7; ; "}, {"5: a@7 b@8 c@9; d; ", "next", "7", "5: a@7 b@8 c@9; d; "}, {"0: a; ; ", "next", "0", "0: a; ; "}, {"1000000: a@1000064; ; ", "next", "1000064", "1000000: a@1000064; ; "}, {"1000000: a@3; ; ", "next", "1000000", "1000000: a@3; ; "},
	},
}

func TestQueueCalls(t *testing.T) {
	for why, list := range queuesByHand {
		for _, x := range list {
			got := queueRight(t, queueIn(x.queue), queueCallIn(x.call))
			if got.told(queueCallIn(x.call).what) != x.told || !sameQueues(got.q, queueIn(x.then)) {
				t.Errorf("%s: %s of %q: %q, %q", why, x.call, x.queue, got.told(queueCallIn(x.call).what), textOfQueue(got.q))
			}
		}
	}
}

// allQueueCalls are calls of each kind with each name of q, new ones and numbers around its own.
func allQueueCalls(q impl.Queue) []queueCall {
	out := []queueCall{{what: "take"}, {what: "next"}}
	names := []string{"a", "new", longName}
	for _, x := range slices.Concat(q.Items, q.Doing) {
		names = append(names, x.Name)
	}
	for _, name := range names {
		for _, what := range []string{"put", "well", "fail"} {
			out = append(out, queueCall{what: what, name: name})
		}
	}
	for _, now := range []int{math.MinInt, -1, 0, 1, q.Now - 1, q.Now, q.Now + 1, mostClock - 1, mostClock, mostClock + 1, 1<<32 + q.Now + 1, math.MaxInt} {
		out = append(out, queueCall{what: "pass", now: now})
	}
	return out
}

func TestCallsOfRightQueues(t *testing.T) {
	for _, q := range rightQueues() {
		for _, c := range allQueueCalls(q) {
			queueRight(t, q, c)
		}
		for _, name := range wrongNames {
			for _, what := range []string{"put", "well", "fail"} {
				if a := (queueCall{what: what, name: name}).at(q); a.ok || !sameQueues(a.q, q) {
					t.Errorf("%s %.30q of %.300s: %.300s", what, name, textOfQueue(q), textOfQueue(a.q))
				}
			}
		}
	}
}

// Of a queue that is not right each call answers it as it is, and zero values.
func TestCallsOfWrongQueues(t *testing.T) {
	for why, q := range wrongQueues() {
		kept := copiedQueue(q)
		for _, c := range append(allQueueCalls(impl.Queue{Now: 5}), queueCallIn("put d"), queueCallIn("well d"), queueCallIn("fail d"), queueCallIn("fail e"), queueCallIn("put "), queueCallIn("well "), queueCallIn("pass 9")) {
			if a := c.at(q); a.ok || a.name != "" || a.at != 0 || !sameQueues(a.q, q) || !sameQueues(q, kept) {
				t.Errorf("%.60s: %v: %q %.300s", why, c, a.told(c.what), textOfQueue(a.q))
			}
		}
	}
}

// Where there is just room for one more, and where there is none.
func TestQueuesAtTheLimits(t *testing.T) {
	for items := mostQueue - 1; items <= mostQueue; items++ {
		for doing := mostQueue - 1; doing <= mostQueue; doing++ {
			q := crowdedQueue(items, doing)
			room, first := items < mostQueue, q.Items[0]
			if a := queueRight(t, q, queueCallIn("put new")); a.ok != room || len(a.q.Items) != mostQueue || !room && !sameQueues(a.q, q) {
				t.Error(items, doing, "put of a new one:", a.ok)
			}
			if a := queueRight(t, q, queueCallIn("put "+q.Items[19].Name)); !a.ok || a.q.Items[19].Ready != 500 || q.Items[19].Ready != 509 {
				t.Error(items, doing, "put of one of Items:", a.ok)
			}
			if a := queueRight(t, q, queueCallIn("put "+q.Doing[1].Name)); !a.ok || a.q.Again[len(a.q.Again)-1] != q.Doing[1].Name {
				t.Error(items, doing, "put of one of Doing:", a.ok)
			}
			if a := queueRight(t, q, queueCallIn("take")); a.ok != (doing < mostQueue) || a.ok && (a.name != first.Name || a.q.Doing[doing] != impl.Item{Name: first.Name, Fails: first.Fails}) || !a.ok && !sameQueues(a.q, q) {
				t.Error(items, doing, "take:", a.ok, a.name)
			}
			for i := range 3 {
				for _, what := range []string{"well", "fail"} {
					back := what == "fail" || i == 0
					a := queueRight(t, q, queueCallIn(what+" "+q.Doing[i].Name))
					if !a.ok || len(a.q.Doing) != doing-1 || slices.Contains(a.q.Again, q.Doing[i].Name) || !back && len(a.q.Items) != items || back && len(a.q.Items) != mostQueue {
						t.Error(items, doing, what, i, a.ok, len(a.q.Items), len(a.q.Doing))
					}
				}
			}
		}
	}
}

func TestQueueUpToMaxQueue(t *testing.T) {
	q, names := impl.Queue{}, ascendingNames(mostQueue+1)
	for i, name := range names {
		a := queueRight(t, q, queueCall{what: "put", name: name})
		if a.ok != (i < mostQueue) {
			t.Fatal("put", i, a.ok)
		}
		q = a.q
	}
	for i, name := range names {
		a := queueRight(t, q, queueCallIn("take"))
		if a.ok != (i < mostQueue) || a.ok && a.name != name {
			t.Fatal("take", i, a.ok, a.name)
		}
		q = queueRight(t, a.q, queueCall{what: "put", name: name}).q
	}
	// All sixty were taken and came again, and the last one waits now.
	if len(q.Doing) != mostQueue || len(q.Again) != mostQueue || len(q.Items) != 1 || queueRight(t, q, queueCallIn("take")).ok {
		t.Fatal(textOfQueue(q))
	}
	for i, name := range names[:mostQueue] {
		if q = queueRight(t, q, queueCall{what: "well", name: name}).q; len(q.Items) != min(i+2, mostQueue) {
			t.Fatal("well", i, len(q.Items))
		}
	}
	if len(q.Doing)+len(q.Again) > 0 || q.Items[0].Name != names[mostQueue] {
		t.Error(textOfQueue(q))
	}
}

// What fails is not handed out until its delay is over, which is longer each time, up to MaxDelay; once it went well, it begins anew.
func TestWhatFailsComesLaterEachTime(t *testing.T) {
	for _, others := range []string{"", "x y", "x@900 y"} {
		q := queueIn("3: " + others + "; a; ")
		for range 2 {
			for i, span := range []int{1, 2, 4, 8, 16, 32, 64, 64, 64, 64} {
				q = queueRight(t, q, queueCallIn("fail a")).q
				if last := q.Items[len(q.Items)-1]; last != (impl.Item{Name: "a", Ready: q.Now + span, Fails: i + 1}) {
					t.Fatalf("%q: %d Fails: %v at %d", others, i+1, last, q.Now)
				}
				q = takenJustAt(t, q, "a", q.Now+span)
			}
			q = queueRight(t, queueRight(t, q, queueCallIn("put a")).q, queueCallIn("well a")).q
			q = takenJustAt(t, q, "a", q.Now)
			if those, _ := partedBy(q.Doing, "a"); those[0].Fails != 0 {
				t.Fatalf("%q: it does not begin anew: %s", others, textOfQueue(q))
			}
		}
	}
}

// takenJustAt is q when name is taken, which must go at this time, and not ahead of it; what is taken with it waits again.
func takenJustAt(t *testing.T, q impl.Queue, name string, at int) impl.Queue {
	t.Helper()
	for q.Now < at {
		if a, _ := takenUntil(t, q, name); a.ok {
			t.Fatalf("%s is taken at %d, not at %d", name, q.Now, at)
		}
		q = queueRight(t, q, queueCall{what: "pass", now: q.Now + 1}).q
	}
	a, ahead := takenUntil(t, q, name)
	if !a.ok {
		t.Fatalf("%s is not taken at %d", name, at)
	}
	for _, other := range ahead {
		a = queueRight(t, queueRight(t, a.q, queueCall{what: "put", name: other}).q, queueCall{what: "well", name: other})
	}
	return a.q
}

// takenUntil takes until name comes, or nothing comes any more, and tells what came ahead of it.
func takenUntil(t *testing.T, q impl.Queue, name string) (queueAnswer, []string) {
	t.Helper()
	ahead := []string{}
	for {
		a := queueRight(t, q, queueCallIn("take"))
		if !a.ok || a.name == name {
			return a, ahead
		}
		ahead = append(ahead, a.name)
		q = a.q
	}
}

// However often it is put, what was taken is not taken again until it is done.
func TestNothingIsTakenTwiceAtOnce(t *testing.T) {
	q := queueIn("0: a b; ; ")
	a := queueRight(t, q, queueCallIn("take"))
	for range 5 {
		a.q = queueRight(t, a.q, queueCallIn("put a")).q
		a.q = queueRight(t, a.q, queueCall{what: "pass", now: a.q.Now + 100}).q
	}
	b := queueRight(t, a.q, queueCallIn("take"))
	if a.name != "a" || b.name != "b" || !slices.Equal(b.q.Again, []string{"a"}) || queueRight(t, b.q, queueCallIn("take")).ok {
		t.Fatal(a.name, b.name, textOfQueue(b.q))
	}
	for what, then := range map[string]string{"well a": "500: a@500; b; ", "fail a": "500: a@501#1; b; "} {
		c := queueRight(t, b.q, queueCallIn(what))
		if !sameQueues(c.q, queueIn(then)) || queueRight(t, c.q, queueCallIn(what)).ok {
			t.Error(what, textOfQueue(c.q))
		}
		again := queueRight(t, queueRight(t, c.q, queueCallIn("pass 501")).q, queueCallIn("take"))
		if again.name != "a" || len(again.q.Again) > 0 {
			t.Error(what, again.name, textOfQueue(again.q))
		}
	}
}

// Whatever is asked, one behind the other, it is as the words say.
func TestQueueOfAllShortRuns(t *testing.T) {
	taken := 0
	var run func(q impl.Queue, left int)
	run = func(q impl.Queue, left int) {
		for _, c := range []queueCall{{what: "put", name: "a"}, {what: "put", name: "b"}, {what: "take"}, {what: "well", name: "a"}, {what: "fail", name: "a"}, {what: "fail", name: "b"}, {what: "pass", now: q.Now + 1}} {
			a := queueRight(t, q, c)
			queueRight(t, a.q, queueCall{what: "next"})
			if a.ok && c.what == "take" {
				taken++
			}
			if left > 1 {
				run(a.q, left-1)
			}
		}
	}
	run(impl.Queue{}, 6)
	if taken < 3000 {
		t.Error("too few were taken:", taken)
	}
}

// anyQueueCall is mostly right, and mostly of what is there.
func anyQueueCall(rnd *rand.Rand, q impl.Queue, names []string) queueCall {
	c := queueCall{what: []string{"put", "put", "put", "take", "take", "take", "well", "fail", "well", "fail", "pass", "next"}[rnd.Intn(12)], name: names[rnd.Intn(len(names))]}
	if (c.what == "well" || c.what == "fail") && len(q.Doing) > 0 && rnd.Intn(4) > 0 {
		c.name = q.Doing[rnd.Intn(len(q.Doing))].Name
	}
	switch {
	case c.what == "pass":
		c.name, c.now = "", q.Now+rnd.Intn(12)-2
		if rnd.Intn(40) == 0 {
			c.now = mostClock + rnd.Intn(3) - 1
		}
	case c.what == "take" || c.what == "next":
		c.name = ""
	case rnd.Intn(40) == 0:
		c.name = wrongNames[rnd.Intn(len(wrongNames))]
	}
	return c
}

// held are all names of a queue.
func held(q impl.Queue) []string {
	out := []string{}
	for _, x := range slices.Concat(q.Items, q.Doing) {
		out = append(out, x.Name)
	}
	return out
}

// queueBook has what was taken and is not done yet, and the last delay of what fails.
type queueBook struct {
	taken map[string]bool
	span  map[string]int
}

// enter asks of a call that went whether a name was taken twice at once, or comes again too soon.
func (b queueBook) enter(t *testing.T, c queueCall, a queueAnswer) {
	t.Helper()
	switch c.what {
	case "take":
		if b.taken[a.name] {
			t.Fatalf("%s is taken twice: %s", a.name, textOfQueue(a.q))
		}
		b.taken[a.name] = true
	case "well":
		b.taken[c.name], b.span[c.name] = false, 0
	case "fail":
		b.taken[c.name] = false
		last := b.span[c.name]
		b.span[c.name] = 0
		// One that was dropped begins anew.
		if those, _ := partedBy(a.q.Items, c.name); len(those) == 1 {
			span := those[0].Ready - a.q.Now
			if span < last || span == last && last < mostDelay {
				t.Fatalf("%s: a delay of %d behind one of %d", c.name, span, last)
			}
			b.span[c.name] = span
		}
	}
}

// nothingLost asks whether what was put is there, and what was there still is, if it did not go well and there is room.
func nothingLost(t *testing.T, q impl.Queue, c queueCall, a queueAnswer) {
	t.Helper()
	names := held(q)
	if c.what == "put" && a.ok {
		names = append(names, c.name)
	}
	for _, name := range names {
		mayGo := name == c.name && (c.what == "well" || c.what == "fail" && len(q.Items) == mostQueue)
		if !mayGo && !slices.Contains(held(a.q), name) {
			t.Fatalf("%v: %s is lost: %s", c, name, textOfQueue(a.q))
		}
	}
}

// Through long runs: what was taken and is not done yet is never handed out, each fail comes later than the one ahead, and nothing is lost while there is room.
func TestQueueOfManyCalls(t *testing.T) {
	rnd := rand.New(rand.NewSource(99))
	seen := map[string]int{}
	for i := range 40 {
		q, book := impl.Queue{}, queueBook{map[string]bool{}, map[string]int{}}
		names := ascendingNames([]int{2, 5, 30, 61, 130}[i%5])
		for range 600 {
			c := anyQueueCall(rnd, q, names)
			a := queueRight(t, q, c)
			seen[c.what+" "+strconv.FormatBool(a.ok)]++
			if a.ok {
				book.enter(t, c, a)
			}
			nothingLost(t, q, c, a)
			q = a.q
		}
	}
	for _, what := range []string{"put true", "put false", "take true", "take false", "well true", "well false", "fail true", "fail false"} {
		if seen[what] < 100 {
			t.Error("too few were tried:", what, seen[what])
		}
	}
}

// roomyQueue is q with room behind each list, in which stands what must not be read.
func roomyQueue(q impl.Queue) impl.Queue {
	q = copiedQueue(q)
	q.Items = append(q.Items, impl.Item{Name: "zz"}, impl.Item{})[:len(q.Items)]
	q.Doing = append(q.Doing, impl.Item{Name: "zy"}, impl.Item{})[:len(q.Doing)]
	q.Again = append(q.Again, "zy", "")[:len(q.Again)]
	return q
}

func untouchedQueue(q impl.Queue) bool {
	items, doing, again := q.Items[len(q.Items):len(q.Items)+2], q.Doing[len(q.Doing):len(q.Doing)+2], q.Again[len(q.Again):len(q.Again)+2]
	return slices.Equal(items, []impl.Item{{Name: "zz"}, {}}) && slices.Equal(doing, []impl.Item{{Name: "zy"}, {}}) && slices.Equal(again, []string{"zy", ""})
}

func queueHeads(q impl.Queue) []any {
	out := []any{}
	if cap(q.Items) > 0 {
		out = append(out, &q.Items[:1][0])
	}
	if cap(q.Doing) > 0 {
		out = append(out, &q.Doing[:1][0])
	}
	if cap(q.Again) > 0 {
		out = append(out, &q.Again[:1][0])
	}
	return out
}

// overwrittenQueue has all that q's lists hold overwritten, and what lies behind them.
func overwrittenQueue(q impl.Queue) {
	for _, l := range [][]impl.Item{q.Items[:cap(q.Items)], q.Doing[:cap(q.Doing)]} {
		for i := range l {
			l[i] = impl.Item{Name: "changed", Ready: 777}
		}
	}
	for i := range q.Again[:cap(q.Again)] {
		q.Again[:cap(q.Again)][i] = "changed"
	}
}

// someQueues are right ones and wrong ones, few of each kind.
func someQueues() []impl.Queue {
	out := []impl.Queue{{}, queueIn(usualQueue), crowdedQueue(mostQueue, mostQueue), crowdedQueue(mostQueue, 3), crowdedQueue(3, mostQueue), queueIn("9: ; a b; b a"), queueIn("9: a@10 b; ; ")}
	return append(out, queueIn("0: a a; ; "), queueIn("0: a; b; a"), crowdedQueue(mostQueue+1, 2), queueWith(func(q *impl.Queue) { q.Now = -1 }), queueWith(func(q *impl.Queue) { q.Doing[0].Ready = 1 }))
}

// What a call answers shares nothing with the queue that was handed in, and no two lists of it are one, whatever it tells.
func TestQueuesAreNewMemory(t *testing.T) {
	shared := itemsIn("a b")
	queues := append(someQueues(), impl.Queue{Items: shared, Doing: shared}, impl.Queue{Items: shared[:1], Doing: shared[1:], Again: []string{"b"}})
	for _, q := range queues {
		q = roomyQueue(q)
		given := map[any]bool{}
		for _, h := range queueHeads(q) {
			given[h] = true
		}
		kept := copiedQueue(q)
		for _, c := range append(allQueueCalls(q), queueCallIn("put -"), queueCallIn("well -")) {
			if c.what == "next" {
				continue
			}
			a := c.at(q)
			for _, h := range queueHeads(a.q) {
				if given[h] {
					t.Fatalf("%v of %.300s: the queue is shared", c, textOfQueue(kept))
				}
			}
			if !apart(queueHeads(a.q)) {
				t.Fatalf("%v of %.300s: two lists of the answer are one", c, textOfQueue(kept))
			}
			was := copiedQueue(a.q)
			overwrittenQueue(a.q)
			if !sameQueues(q, kept) || !untouchedQueue(q) {
				t.Fatalf("%v of %.300s: the queue changed with the answer", c, textOfQueue(kept))
			}
			if again := c.at(q); !sameQueues(again.q, was) {
				t.Fatalf("%v of %.300s: an answer was kept", c, textOfQueue(kept))
			}
		}
	}
}

// What lies behind a list's length is neither read nor written.
func TestBehindTheLengthOfQueues(t *testing.T) {
	for _, q := range someQueues() {
		short := roomyQueue(q)
		if impl.QueueOk(short) != impl.QueueOk(q) || !untouchedQueue(short) {
			t.Errorf("%.300s: what lies behind was read", textOfQueue(q))
		}
		for _, c := range append(allQueueCalls(q), queueCallIn("put zz"), queueCallIn("put zy"), queueCallIn("well zy"), queueCallIn("fail zy"), queueCallIn("fail zz")) {
			want := c.at(q)
			if got := c.at(short); !sameAnswers(got, want) || !untouchedQueue(short) {
				t.Fatalf("%v of %.300s: %.300s, not %.300s", c, textOfQueue(q), textOfQueue(got.q), textOfQueue(want.q))
			}
		}
	}
	// Two queues whose lists are parts of one row do not come in each other's way.
	row := itemsIn("a b c d")
	first, second := impl.Queue{Items: row[:2]}, impl.Queue{Items: row[2:]}
	one, _ := impl.Put(first, "x")
	two, _ := impl.Put(second, "y")
	if textOfItems(row) != "a b c d" || textOfItems(one.Items) != "a b x" || textOfItems(two.Items) != "c d y" {
		t.Error(textOfItems(row), textOfItems(one.Items), textOfItems(two.Items))
	}
}

// However long the lists and texts are, every call ends.
func TestVeryLongQueues(t *testing.T) {
	far := strings.Repeat("a", 1000000)
	long := impl.Queue{Items: slices.Repeat(itemsIn("a"), 100000), Doing: slices.Repeat(itemsIn("b"), 100000), Again: slices.Repeat([]string{"b"}, 100000)}
	for _, q := range []impl.Queue{long, {Again: long.Again}, {Doing: long.Doing[:1], Again: long.Again}, {Items: []impl.Item{{Name: far}}}, {Doing: []impl.Item{{Name: far}}, Again: []string{far}}} {
		for _, c := range []queueCall{{what: "put", name: "a"}, {what: "put", name: far}, {what: "take"}, {what: "well", name: "b"}, {what: "fail", name: far}, {what: "pass", now: 9}, {what: "next"}} {
			if a := c.at(q); impl.QueueOk(q) || !sameAnswers(a, queueAnswer{q: q}) {
				t.Error(c.what, a.ok, len(a.q.Items), len(a.q.Doing), len(a.q.Again))
			}
		}
	}
}
