package tests

import (
	"math"
	"math/rand"
	"reflect"
	"slices"
	"strconv"
	"strings"
	"testing"

	"loop.example/g00119/impl"
)

// Promise 12: what an island is told is what is held for it, patched for it.

// mostWorks is how many an island may be told of.
const mostWorks = 40

func over(island string, ops ...impl.Op) impl.Over { return impl.Over{Island: island, Ops: ops} }

// worksIn reads works; each is a Uid, x, its copies, a blank, and the text of its Spec, and a bar stands between two.
func worksIn(s string) []impl.Work {
	out := []impl.Work{}
	for _, part := range strings.Split(s, "|") {
		head, spec, there := strings.Cut(strings.TrimSpace(part), " ")
		if there {
			run := runsIn([]string{head})[0]
			out = append(out, impl.Work{Uid: run.Uid, Copies: run.N, Spec: valueIn(spec)})
		}
	}
	return out
}

// workRow are so many works that are right, from this Uid on.
func workRow(n, first int) []impl.Work {
	out := []impl.Work{}
	for i := range n {
		out = append(out, impl.Work{Uid: first + i, Copies: 1 + i, Spec: mapOf("a", numOf(i))})
	}
	return out
}

// The document's words once more.

func renderByWords(j impl.Job, island string) (impl.Value, bool) {
	if !isValue(j.Spec) {
		return impl.Value{}, false
	}
	for _, x := range j.Patches {
		if x.Island == island {
			if v, failed := patchedByWords(j.Spec, x.Ops); failed < 0 {
				return v, true
			}
			return impl.Value{}, false
		}
	}
	return j.Spec, true
}

func worksByWords(h impl.Hub, name string) []impl.Work {
	out := []impl.Work{}
	if !isHub(h) {
		return out
	}
	for _, j := range h.Jobs {
		for _, x := range h.Holds {
			if x.Uid == j.Uid && x.Name == name && x.Gone == 0 {
				spec, _ := renderByWords(j, name)
				out = append(out, impl.Work{Uid: x.Uid, Copies: x.Copies, Spec: spec})
			}
		}
	}
	return out
}

func areWorks(list []impl.Work) bool {
	for i, w := range list {
		if w.Uid < 1 || w.Uid > 1000000 || w.Copies < 1 || w.Copies > 10000 || i > 0 && list[i-1].Uid >= w.Uid || !isValue(w.Spec) {
			return false
		}
	}
	return len(list) <= 40
}

func sumsByWords(h impl.Hub, uid int) (wanted, running int) {
	for _, x := range h.Holds {
		if x.Uid == uid {
			wanted, running = wanted+x.Copies, running+x.Runs
		}
	}
	return wanted, running
}

// leftAlone calls ask with a copy of x that has room behind each of its lists, and asks that x is as it was then, and that what ask tells of shares nothing with it, nor any two lists of it.
func leftAlone[T any](t *testing.T, x T, ask func(x T) any) {
	t.Helper()
	given := roomyCopy(x)
	kept := wholeCopy(given)
	lists := memoryOf(ask(given))
	if !reflect.DeepEqual(wholeCopy(given), kept) {
		t.Fatalf("%.500v: it was changed", x)
	}
	if !allApart(lists) || sharesAny(lists, memoryOf(given)) {
		t.Fatalf("%.500v: a list is shared", x)
	}
}

// rendersRight asks Render for what the words say, and tells the answer.
func rendersRight(t *testing.T, j impl.Job, island string) (v impl.Value, ok bool) {
	t.Helper()
	leftAlone(t, j, func(j impl.Job) any {
		v, ok = impl.Render(j, island)
		return v
	})
	if want, wantOk := renderByWords(j, island); ok != wantOk || !alike(v, want) {
		t.Fatalf("%.500v on %.50q: %v %.300v, not %v %.300v", j, island, ok, v, wantOk, want)
	}
	return v, ok
}

// worksRight asks Works for what the words say, and the promise, and tells the answer.
func worksRight(t *testing.T, h impl.Hub, name string) (list []impl.Work) {
	t.Helper()
	leftAlone(t, h, func(h impl.Hub) any {
		list = impl.Works(h, name)
		return list
	})
	if want := worksByWords(h, name); !sameAll(list, want) {
		t.Fatalf("%s on %.50q: %.300v, not %.300v", textOfHub(h), name, list, want)
	}
	if impl.HubOk(h) {
		keepsPromise12(t, h, name, list)
	}
	return list
}

// keepsPromise12 asks what must hold of the works of a right hub, Hold by Hold.
func keepsPromise12(t *testing.T, h impl.Hub, name string, list []impl.Work) {
	t.Helper()
	if !impl.WorksOk(list) {
		t.Fatalf("%s on %s: what is told is not right: %.300v", textOfHub(h), name, list)
	}
	told := map[int]impl.Work{}
	for _, w := range list {
		told[w.Uid] = w
	}
	for _, x := range h.Holds {
		w, ok := told[x.Uid]
		switch {
		case x.Name != name:
			continue
		case ok != (x.Gone == 0) || w.Copies != x.Copies:
			t.Fatalf("%s on %s: of %d: %.300v", textOfHub(h), name, x.Uid, w)
		case ok:
			at := slices.IndexFunc(h.Jobs, func(j impl.Job) bool { return j.Uid == x.Uid })
			if spec, right := impl.Render(h.Jobs[at], name); !right || !alike(spec, w.Spec) {
				t.Fatalf("%s on %s: the Spec of %d: %.300v, not %.300v", textOfHub(h), name, x.Uid, w.Spec, spec)
			}
		}
		delete(told, x.Uid)
	}
	if len(told) > 0 {
		t.Fatalf("%s on %s: it holds nothing of %.300v", textOfHub(h), name, told)
	}
}

// sumsRight asks Wanted and Running for what the words say.
func sumsRight(t *testing.T, h impl.Hub, uid int) (wanted, running int) {
	t.Helper()
	leftAlone(t, h, func(h impl.Hub) any {
		wanted, running = impl.Wanted(h, uid), impl.Running(h, uid)
		return nil
	})
	if w, r := sumsByWords(h, uid); wanted != w || running != r {
		t.Fatalf("%s: of %d %d and %d, not %d and %d", textOfHub(h), uid, wanted, running, w, r)
	}
	return wanted, running
}

// noNames are none; nobody stands under one of them in a hub that is right.
func noNames() []string {
	return append([]string{"z", "zz", "0", "a0", "aa", "a-b", "web", "db", longName}, wrongNames...)
}

// threeOps can be done on webSpec, one behind the other.
func threeOps() []impl.Op {
	return []impl.Op{set("tier", textOf("gold")), set("ports/1", numOf(81)), drop("image")}
}

// webText is that of webSpec, and patchedText that of it behind threeOps.
const (
	webText     = `{image:"web",ports:[80]}`
	patchedText = `{ports:[80,81],tier:"gold"}`
)

// renderedByHand are Specs with their patches, asked for on an island; nothing where it can not be done.
var renderedByHand = map[string]struct {
	spec    string
	patches []impl.Over
	island  string
	then    string
}{
	"no patches":               {webText, nil, "a", webText},
	"an empty list":            {webText, []impl.Over{}, "a", webText},
	"of another island":        {webText, []impl.Over{over("b", drop("image"))}, "a", webText},
	"of all but this":          {webText, []impl.Over{over("a", drop("image")), over("c", drop("ports"))}, "b", webText},
	"ahead of all":             {webText, []impl.Over{over("b", drop("image")), over("c", drop("ports"))}, "a", webText},
	"behind all":               {webText, []impl.Over{over("a", drop("image")), over("b", drop("ports"))}, "c", webText},
	"the only one":             {webText, []impl.Over{over("a", drop("image"))}, "a", `{ports:[80]}`},
	"the first":                {webText, []impl.Over{over("a", drop("image")), over("b", drop("ports")), over("c", threeOps()...)}, "a", `{ports:[80]}`},
	"in the midst":             {webText, []impl.Over{over("a", drop("image")), over("b", drop("ports")), over("c", threeOps()...)}, "b", `{image:"web"}`},
	"the last":                 {webText, []impl.Over{over("a", drop("image")), over("b", drop("ports")), over("c", threeOps()...)}, "c", patchedText},
	"a name that another has":  {webText, []impl.Over{over("a", drop("image")), over("a-b", drop("ports"))}, "a-b", `{image:"web"}`},
	"a name within another":    {webText, []impl.Over{over("a-b", drop("image"))}, "a", webText},
	"the job's name":           {webText, []impl.Over{over("a", drop("image"))}, "web", webText},
	"without Ops":              {webText, []impl.Over{over("a")}, "a", webText},
	"without Ops, ahead":       {webText, []impl.Over{over("a"), over("b", drop("image"))}, "a", webText},
	"without Ops, behind":      {webText, []impl.Over{over("a", drop("image")), over("b")}, "b", webText},
	"one needs what is there":  {webText, []impl.Over{over("a", need("ports/0", numOf(80)))}, "a", webText},
	"one needs what one made":  {webText, []impl.Over{over("a", append(threeOps(), need("ports/1", numOf(81)))...)}, "a", patchedText},
	"a Spec that is a text":    {`"x"`, []impl.Over{over("b", drop("image"))}, "a", `"x"`},
	"a Spec that is a number":  {"-7", []impl.Over{over("a")}, "a", "-7"},
	"a Spec that is a list":    {"[1,2]", []impl.Over{over("a", set("0", numOf(5)), drop("1"))}, "a", "[5]"},
	"a number can not be set":  {"7", []impl.Over{over("a", set("a", numOf(1)))}, "a", ""},
	"the first can not":        {webText, []impl.Over{over("a", append([]impl.Op{drop("none")}, threeOps()...)...)}, "a", ""},
	"one in the midst can not": {webText, []impl.Over{over("a", slices.Insert(threeOps(), 1, drop("none"))...)}, "a", ""},
	"the last can not":         {webText, []impl.Over{over("a", append(threeOps(), drop("none"))...)}, "a", ""},
	"one alone can not":        {webText, []impl.Over{over("a", need("ports/0", numOf(81)))}, "a", ""},
	"what went is needed":      {webText, []impl.Over{over("a", drop("image"), need("image", textOf("web")))}, "a", ""},
	"what went goes":           {webText, []impl.Over{over("a", drop("image"), drop("image"))}, "a", ""},
	"a place past the end":     {webText, []impl.Over{over("a", set("ports/2", numOf(1)))}, "a", ""},
	"another one's can not":    {webText, []impl.Over{over("a", drop("image")), over("b", drop("none"))}, "a", `{ports:[80]}`},
	"another one's is none":    {webText, []impl.Over{over("a", impl.Op{}), over("b", drop("image"))}, "b", `{ports:[80]}`},
	"all others' can not":      {webText, []impl.Over{over("a", drop("none")), over("c", drop("none"))}, "b", webText},
	"a kind that is none":      {webText, []impl.Over{over("a", impl.Op{Kind: 4, Path: steps("image")})}, "a", ""},
	"no path":                  {webText, []impl.Over{over("a", set("", numOf(1)))}, "a", ""},
	"a drop with a value":      {webText, []impl.Over{over("a", impl.Op{Kind: impl.OpDrop, Path: steps("image"), Value: numOf(1)})}, "a", ""},
	"a value that is none":     {webText, []impl.Over{over("a", set("image", impl.Value{}))}, "a", ""},
	"the last is none":         {webText, []impl.Over{over("a", append(threeOps(), impl.Op{})...)}, "a", ""},
	"no name":                  {webText, []impl.Over{over("a", drop("image"))}, "", webText},
	"a name that is none":      {webText, []impl.Over{over("a", drop("image"))}, "A", webText},
	"a name with an end":       {webText, []impl.Over{over("a", drop("image"))}, "a-", webText},
	"an Over of no name":       {webText, []impl.Over{over("", drop("image")), over("a", drop("ports"))}, "", `{ports:[80]}`},
	"an Over of what is none":  {webText, []impl.Over{over("A b", drop("image"))}, "A b", `{ports:[80]}`},
	"such a one can not":       {webText, []impl.Over{over("", drop("none"))}, "", ""},
	"out of order":             {webText, []impl.Over{over("c", drop("image")), over("b", drop("ports")), over("a", threeOps()...)}, "a", patchedText},
	"out of order, the first":  {webText, []impl.Over{over("c", drop("image")), over("b", drop("ports")), over("a", threeOps()...)}, "c", `{ports:[80]}`},
	"twice":                    {webText, []impl.Over{over("a", drop("image")), over("a", drop("ports"))}, "a", `{ports:[80]}`},
	"twice, the second can":    {webText, []impl.Over{over("a", drop("none")), over("a", drop("ports"))}, "a", ""},
	"twice, the first can":     {webText, []impl.Over{over("a", drop("image")), over("a", drop("none"))}, "a", `{ports:[80]}`},
	"twice, the first without": {webText, []impl.Over{over("a"), over("a", drop("image"))}, "a", webText},
}

func TestRenderByHand(t *testing.T) {
	for why, x := range renderedByHand {
		spec, ok := rendersRight(t, impl.Job{Uid: 3, Name: "web", Spec: valueIn(x.spec), Patches: x.patches}, x.island)
		if ok != (x.then != "") || ok && !alike(spec, valueIn(x.then)) || !ok && !isZero(spec) {
			t.Errorf("%s: %v %v", why, ok, spec)
		}
	}
}

// Whatever is not as told of a job beside its Spec and the Over that is asked for makes no difference.
func TestRenderAsksForNothingElse(t *testing.T) {
	then := valueIn(patchedText)
	patches := []impl.Over{over("b", threeOps()...)}
	jobs := map[string]impl.Job{"nothing else": {}, "all else": {Uid: 3, Name: "web", Want: impl.Want{Copies: 5}, Ends: true}}
	for why, w := range wrongWants() {
		jobs["Want: "+why] = impl.Job{Uid: 1, Name: "a", Want: w}
	}
	for _, s := range wrongNames {
		jobs["the name "+s] = impl.Job{Uid: 1, Name: s}
	}
	for _, n := range farTimes {
		jobs["the Uid "+strconv.Itoa(n)] = impl.Job{Uid: n, Name: "a"}
	}
	for why, j := range jobs {
		j.Spec, j.Patches = webSpec(), patches
		if v, ok := impl.Render(j, "b"); !ok || !alike(v, then) {
			t.Errorf("%.60s: %v %v", why, ok, v)
		}
		if v, ok := impl.Render(j, "a"); !ok || !alike(v, webSpec()) {
			t.Errorf("%.60s: %v %v", why, ok, v)
		}
		j.Patches = nil
		j.Spec = impl.Value{}
		if v, ok := impl.Render(j, "b"); ok || !isZero(v) {
			t.Errorf("%.60s: %v %v", why, ok, v)
		}
	}
}

// A Spec that is none can not be rendered, whether there is an Over or not.
func TestRenderOfWrongSpecs(t *testing.T) {
	lists := map[string][]impl.Over{"none": nil, "of another": {over("b", set("a", numOf(1)))}, "without Ops": {over("a")}, "a set": {over("a", set("a", numOf(1)))}, "a drop": {over("a", drop("a"))}, "all around": {over("0"), over("a"), over("b")}}
	for why, v := range wrongValues() {
		for what, l := range lists {
			if rendersPlainly(t, why+", "+what, impl.Job{Uid: 1, Name: "web", Spec: v, Patches: l}, "a") {
				t.Errorf("%.60s, %s: it is rendered", why, what)
			}
		}
	}
	for _, x := range rightValues() {
		for what, l := range lists {
			got, ok := rendersRight(t, impl.Job{Uid: 1, Name: "web", Spec: x.v, Patches: l}, "a")
			if what != "a set" && what != "a drop" && (!ok || !alike(got, x.v)) {
				t.Errorf("%.60s, %s: %v %.200v", x.s, what, ok, got)
			}
		}
	}
}

// rendersPlainly asks Render for what the words say, and for nothing else, as what it is handed may be great.
func rendersPlainly(t *testing.T, why string, j impl.Job, island string) bool {
	t.Helper()
	v, ok := impl.Render(j, island)
	if want, wantOk := renderByWords(j, island); ok != wantOk || !alike(v, want) {
		t.Errorf("%.60s on %q: %v %.200v", why, island, ok, v)
	}
	return ok
}

// An op that is none, wherever it stands, makes the whole of its Over impossible, and no other one.
func TestRenderOfWrongOps(t *testing.T) {
	three := threeOps()
	for why, op := range wrongOps() {
		for at := range len(three) + 1 {
			ops := slices.Insert(slices.Clone(three), at, op)
			j := impl.Job{Uid: 1, Name: "web", Spec: webSpec(), Patches: []impl.Over{over("a"), over("b", ops...), over("c", three...)}}
			if v, ok := impl.Render(j, "b"); ok || !isZero(v) {
				t.Errorf("%.60s at %d: %v %.200v", why, at, ok, v)
			}
			for _, island := range []string{"a", "c", "d"} {
				if _, ok := impl.Render(j, island); !ok {
					t.Errorf("%.60s at %d: not even %s", why, at, island)
				}
			}
		}
	}
}

func TestRenderOfPatches(t *testing.T) {
	for why, l := range wrongPatches() {
		j := impl.Job{Uid: 1, Name: "web", Spec: webSpec(), Patches: l}
		for _, island := range []string{"a", "b", "c", "d", ""} {
			rendersPlainly(t, why, j, island)
		}
	}
	for why, l := range rightPatches() {
		j := impl.Job{Uid: 1, Name: "web", Spec: webSpec(), Patches: l}
		for _, island := range []string{"a", "b", "c", "d", ""} {
			if !rendersPlainly(t, why, j, island) {
				t.Errorf("%.60s on %q: it can not be done", why, island)
			}
		}
	}
}

// MaxOps go, one more do not; of a list of too many Overs the one that is asked for is taken all the same.
func TestRenderAtTheLimits(t *testing.T) {
	for n := range impl.MaxOps + 5 {
		ops := []impl.Op{}
		for i := range n {
			ops = append(ops, set("n", numOf(i)))
		}
		v, ok := rendersRight(t, impl.Job{Spec: mapOf(""), Patches: []impl.Over{over("a", ops...)}}, "a")
		if ok != (n <= impl.MaxOps) || ok && n > 0 && !alike(v, mapOf("n", numOf(n-1))) {
			t.Error(n, ok, v)
		}
	}
	patches := []impl.Over{}
	for i, name := range ascendingNames(3 * mostIslands) {
		patches = append(patches, over(name, set("n", numOf(i))))
	}
	for i, x := range patches {
		if v, ok := rendersRight(t, impl.Job{Spec: mapOf(""), Patches: patches}, x.Island); !ok || !alike(v, mapOf("n", numOf(i))) {
			t.Error(x.Island, ok, v)
		}
	}
	for _, n := range []int{147, 148, 149, 150} {
		ops := []impl.Op{set("a", numbered(149, numOf(1))), set("b", numbered(n, numOf(1)))}
		// Both maps, what they hold, and the one that holds them.
		if _, ok := rendersRight(t, impl.Job{Spec: mapOf(""), Patches: []impl.Over{over("a", ops...)}}, "a"); ok != (3+149+n <= 300) {
			t.Error(n, ok)
		}
	}
}

// hubOfWorks is what hubIn reads, each job with a Spec of its own, which is patched on b and c.
func hubOfWorks(s string) impl.Hub {
	h := hubIn(s)
	for i := range h.Jobs {
		j := &h.Jobs[i]
		j.Spec = mapOf("of", textOf(j.Name))
		j.Patches = []impl.Over{over("b", set("on", numOf(i))), over("c", drop("of"))}
	}
	return h
}

// toldByHand are hubs, and what each island is told there.
var toldByHand = map[string]struct {
	hub  string
	told map[string]string
}{
	"new":                     {"0 1 0", map[string]string{"a": "", "": ""}},
	"no jobs":                 {"5 1 0; ; a 5 0 0, b 5 0 0", map[string]string{"a": "", "b": "", "c": ""}},
	"no posts":                {"5 3 0; 1 web 6, 2 db 1", map[string]string{"a": "", "web": ""}},
	"no holds":                {"5 2 0; 1 web 0; a 5 0 0, b 5 0 0", map[string]string{"a": "", "b": ""}},
	"one":                     {"5 2 0; 1 web 2; a 5 0 0, b 5 0 0; 1 a 2 0 0", map[string]string{"a": `1x2 {of:"web"}`, "b": "", "c": ""}},
	"one, and it is patched":  {"5 2 0; 1 web 2; a 5 0 0, b 5 0 0; 1 b 2 0 0", map[string]string{"a": "", "b": `1x2 {of:"web",on:0}`}},
	"one, on three":           {"5 2 0; 1 web 9; a 5 0 0, b 5 0 0, c 5 0 0, d 1 0 0; 1 a 4 0 0, 1 b 3 3 0, 1 c 2 9 0", map[string]string{"a": `1x4 {of:"web"}`, "b": `1x3 {of:"web",on:0}`, "c": `1x2 {}`, "d": ""}},
	"each job":                {"5 4 0; 1 web 3, 2 db 1, 3 job 7; a 9 0 0, b 9 0 0; 1 a 2 0 0, 1 b 1 0 0, 2 a 1 0 0, 3 a 3 0 0, 3 b 4 0 0", map[string]string{"a": `1x2 {of:"web"} | 2x1 {of:"db"} | 3x3 {of:"job"}`, "b": `1x1 {of:"web",on:0} | 3x4 {of:"job",on:2}`}},
	"taken away":              {"5 2 0; 1 web 2; a 5 0 0, b 5 0 0; 1 a 0 2 4", map[string]string{"a": "", "b": ""}},
	"taken away at once":      {"5 3 0; 1 web 2, 2 db 1; a 5 0 0; 1 a 0 2 5, 2 a 0 0 1", map[string]string{"a": ""}},
	"some taken away":         {"9 5 0; 1 web 2, 2 db 1, 3 job 7, 4 x 1; a 9 0 0, b 9 0 0; 1 a 0 2 4, 2 a 1 0 0, 3 a 0 0 9, 3 b 7 0 0, 4 a 1 1 0, 4 b 0 0 1", map[string]string{"a": `2x1 {of:"db"} | 4x1 {of:"x"}`, "b": `3x7 {of:"job",on:2}`}},
	"here taken, there not":   {"9 2 0; 1 web 4; a 5 0 0, b 5 0 0; 1 a 0 2 3, 1 b 4 0 0", map[string]string{"a": "", "b": `1x4 {of:"web",on:0}`}},
	"there taken, here not":   {"9 2 0; 1 web 4; a 5 0 0, b 5 0 0; 1 a 4 2 0, 1 b 0 3 9", map[string]string{"a": `1x4 {of:"web"}`, "b": ""}},
	"one ends":                {"9 3 0; 1 web 4 ends, 2 db 2; a 5 0 0; 1 a 0 2 8, 2 a 2 0 0", map[string]string{"a": `2x2 {of:"db"}`}},
	"one ends, and is wanted": {"9 3 0; 1 web 4 ends, 2 db 2; a 5 0 0, b 2 0 0; 1 a 3 2 0, 1 b 0 1 9, 2 a 2 0 0", map[string]string{"a": `1x3 {of:"web"} | 2x2 {of:"db"}`, "b": ""}},
	"all end":                 {"9 3 0; 1 web 4 ends, 2 db 2 ends; a 5 0 0; 1 a 0 4 9, 2 a 0 2 9", map[string]string{"a": ""}},
	"Uids by the names":       {"9 4 0; 1 c 1, 2 b 2, 3 a 3; a 9 0 0, b 9 0 0; 1 a 1 0 0, 1 b 1 0 0, 2 a 2 0 0, 3 a 3 0 0, 3 b 3 0 0", map[string]string{"a": `1x1 {of:"c"} | 2x2 {of:"b"} | 3x3 {of:"a"}`, "b": `1x1 {of:"c",on:0} | 3x3 {of:"a",on:2}`, "c": ""}},
	"Uids as numbers":         {"9 101 0; 2 z 1, 10 y 2, 100 x 3; a 9 0 0; 2 a 1 0 0, 10 a 2 0 0, 100 a 3 0 0", map[string]string{"a": `2x1 {of:"z"} | 10x2 {of:"y"} | 100x3 {of:"x"}`}},
	"an island as a job":      {"9 3 0; 1 web 2, 2 a 1; a 9 0 0, web 5 0 0; 1 web 2 0 0, 2 a 1 0 0", map[string]string{"web": `1x2 {of:"web"}`, "a": `2x1 {of:"a"}`}},
	"not heard for long":      {"9 2 90; 1 web 2; a 5 0 0; 1 a 2 0 0", map[string]string{"a": `1x2 {of:"web"}`}},
	"one that is dead":        {"9 2 0; 1 web 2; b 5 0 0; 1 b 2 0 0; a c", map[string]string{"a": "", "b": `1x2 {of:"web",on:0}`, "c": ""}},
	"the most":                {"1000000 1000000 1000000; 999999 web 10000; b 10000 0 0; 999999 b 10000 10000 0", map[string]string{"b": `999999x10000 {of:"web",on:0}`}},
	"more than the room":      {"9 2 0; 1 web 1; a 0 0 0; 1 a 10000 0 0", map[string]string{"a": `1x10000 {of:"web"}`}},
	"names ahead of another":  {"9 2 0; 1 web 6; a 5 0 0, a-b 5 0 0, a0 5 0 0; 1 a 1 0 0, 1 a-b 2 0 0, 1 a0 3 0 0", map[string]string{"a": `1x1 {of:"web"}`, "a-b": `1x2 {of:"web"}`, "a0": `1x3 {of:"web"}`, "a-": "", "-": ""}},
}

func TestWorksByHand(t *testing.T) {
	for why, x := range toldByHand {
		h := hubOfWorks(x.hub)
		if !impl.HubOk(h) {
			t.Fatal(why, "is not right")
		}
		for name, told := range x.told {
			if got := worksRight(t, h, name); !sameAll(got, worksIn(told)) {
				t.Errorf("%s on %s: %v", why, name, got)
			}
		}
		for _, name := range noNames() {
			if _, named := x.told[name]; !named && len(worksRight(t, h, name)) != 0 {
				t.Errorf("%s on %.50q: it is told something", why, name)
			}
		}
	}
}

// What each island is told is of its own patches, whichever it is, and of nobody else's.
func TestEachIslandIsToldItsOwn(t *testing.T) {
	h := crowded(mostJobs, mostIslands, mostDead)
	names := ascendingNames(mostIslands)
	for i := range h.Jobs {
		h.Jobs[i].Spec = mapOf("job", numOf(i))
		// Every third island has no Over.
		for n, name := range names {
			if (n+i)%3 > 0 {
				h.Jobs[i].Patches = append(h.Jobs[i].Patches, over(name, set("at", numOf(n))))
			}
		}
	}
	for n, name := range names {
		list := worksRight(t, h, name)
		if len(list) != mostJobs {
			t.Fatal(name, len(list))
		}
		for i, w := range list {
			want := mapOf("job", numOf(i))
			if (n+i)%3 > 0 {
				want = mapOf("at job", numOf(n), numOf(i))
			}
			if w.Uid != 10+i || w.Copies != 1 || !alike(w.Spec, want) {
				t.Error(name, i, w)
			}
		}
	}
}

func TestWorksOfRightHubs(t *testing.T) {
	told := 0
	for _, h := range rightHubs() {
		for _, name := range []string{"a", "b", "c", "none", "k001", "k011", "a10", ""} {
			told += len(worksRight(t, h, name))
		}
	}
	if told < 300 {
		t.Error("too few were told:", told)
	}
}

// Of a hub that is not as told nobody is told anything.
func TestWorksOfWrongHubs(t *testing.T) {
	for why, h := range wrongHubs() {
		for _, name := range []string{"a", "b", "c", "k000", ""} {
			if got := impl.Works(h, name); len(got) != 0 {
				t.Errorf("%.60s: %s: %v", why, name, got)
			}
		}
	}
	for _, s := range []string{"0 0 0", "9 3 0; 1 web 2; a 5 0 0; 2 a 2 0 0", "9 2 0; 1 web 2; a 5 0 0; 1 b 2 0 0", "9 2 0; 1 web 2; a 5 0 0; 1 a 0 0 0", "9 2 0; 1 web 2; a 5 0 0; 1 a 2 0 0; a", "-1 2 0; 1 web 2; a 5 0 0; 1 a 2 0 0", "9 1 0; 1 web 2; a 5 0 0; 1 a 2 0 0"} {
		for _, name := range []string{"a", "b", "web"} {
			if got := worksRight(t, hubIn(s), name); len(got) != 0 {
				t.Errorf("%s: %s: %v", s, name, got)
			}
		}
	}
	// A patch that can not be done is wrong for those, too, for whom it is not.
	h := hubWith(func(h *impl.Hub) { h.Jobs[0].Patches = append(h.Jobs[0].Patches, over("zz", drop("none"))) })
	for _, name := range []string{"a", "b", "c"} {
		if got := worksRight(t, h, name); len(got) != 0 {
			t.Error(name, got)
		}
	}
}

func rightWorks() map[string][]impl.Work {
	out := map[string][]impl.Work{
		"none": nil, "an empty list": {}, "one": workRow(1, 1), "two": workRow(2, 7), "the most": workRow(mostWorks, 1), "one fewer": workRow(mostWorks-1, 1), "the most, the last Uids": workRow(mostWorks, mostRev-mostWorks+1),
		"the first and the last Uid": worksIn("1x1 1 | 1000000x1 1"), "the first and the last of Copies": worksIn("1x1 1 | 2x10000 1"), "far apart": worksIn("9x5 [] | 10x4 [] | 100x3 []"), "Specs alike": worksIn("3x5 {a:1} | 4x5 {a:1}"),
	}
	for _, x := range rightValues() {
		out["the Spec "+x.s] = []impl.Work{{Uid: 1, Copies: 1, Spec: x.v}, {Uid: 2, Copies: 1, Spec: x.v}}
	}
	return out
}

// spoiltWorks makes a work wrong, by what is wrong with it then.
func spoiltWorks() map[string]func(w *impl.Work) {
	out := map[string]func(w *impl.Work){"the zero work": func(w *impl.Work) { *w = impl.Work{} }}
	for _, n := range append([]int{0}, farTimes...) {
		out["the Uid "+strconv.Itoa(n)] = func(w *impl.Work) { w.Uid = n }
	}
	for _, n := range append([]int{0}, farNumbers...) {
		out["Copies of "+strconv.Itoa(n)] = func(w *impl.Work) { w.Copies = n }
	}
	for why, v := range wrongValues() {
		out["the Spec: "+why] = func(w *impl.Work) { w.Spec = v }
	}
	return out
}

func wrongWorks() map[string][]impl.Work {
	out := map[string][]impl.Work{
		"one too many": workRow(mostWorks+1, 1), "two too many": workRow(mostWorks+2, 1), "far too many": workRow(1000, 1), "many alike": slices.Repeat(workRow(1, 5), mostWorks), "too many alike": slices.Repeat(workRow(1, 5), mostWorks+1), "one past the last Uid": workRow(mostWorks, mostRev-mostWorks+2),
		"two out of order": worksIn("2x1 1 | 1x1 1"), "the first out of order": worksIn("5x1 1 | 3x1 1 | 4x1 1"), "the last out of order": worksIn("1x1 1 | 3x1 1 | 2x1 1"), "as texts": worksIn("10x1 1 | 9x1 1"), "backward": worksIn("3x1 1 | 2x1 1 | 1x1 1"), "by Copies": worksIn("2x1 1 | 1x2 1"),
		"one twice": worksIn("1x1 1 | 1x1 1"), "one Uid twice": worksIn("1x1 1 | 1x2 []"), "the first Uid twice": worksIn("1x1 1 | 1x2 2 | 2x1 1"), "the last Uid twice": worksIn("1x1 1 | 2x2 2 | 2x1 1"), "one twice, far apart": worksIn("1x1 1 | 2x2 2 | 1x1 1"),
	}
	for why, spoil := range spoiltWorks() {
		for at := range 3 {
			list := workRow(3, 5)
			spoil(&list[at])
			out[strconv.Itoa(at)+": "+why] = list
		}
		list := workRow(1, 5)
		spoil(&list[0])
		out["alone: "+why] = list
	}
	return out
}

func TestWorksOk(t *testing.T) {
	tellsApart(t, rightWorks(), wrongWorks(), areWorks, impl.WorksOk)
	for n := range mostWorks + 5 {
		leftAlone(t, workRow(n, 3), func(list []impl.Work) any {
			if impl.WorksOk(list) != (n <= mostWorks) {
				t.Error(n)
			}
			return nil
		})
	}
}

// Each number is accepted from the least on up to the most, and neither below nor above.
func TestWorkNumbersAtTheLimits(t *testing.T) {
	for _, n := range []int{-2, -1, 0, 1, 2, 9999, 10000, 10001, 10002, 999999, 1000000, 1000001, 1000002} {
		for what, w := range map[string]impl.Work{"Uid": {Uid: n, Copies: 1, Spec: mapOf("")}, "Copies": {Uid: 1, Copies: n, Spec: mapOf("")}} {
			most := map[string]int{"Uid": mostRev, "Copies": mostCopies}[what]
			if impl.WorksOk([]impl.Work{w}) != (1 <= n && n <= most) {
				t.Error(what, n)
			}
		}
	}
}

func TestWorksOkOfAllSmallOnes(t *testing.T) {
	right, specs := 0, []impl.Value{mapOf(""), {}, numOf(0)}
	eachRow(6, 0, 2, func(n []int) {
		for count := range 4 {
			list := []impl.Work{}
			for i := range count {
				list = append(list, impl.Work{Uid: n[i], Copies: n[3+i], Spec: specs[(n[i]+n[3+i])%3]})
			}
			if impl.WorksOk(list) != areWorks(list) {
				t.Fatal(list, areWorks(list))
			}
			if count > 1 && areWorks(list) {
				right++
			}
		}
	})
	if right == 0 {
		t.Error("too few were tried")
	}
}

// sumsByHand are what is wanted, and what runs, of each Uid there.
var sumsByHand = map[string]struct {
	hub             string
	uid             int
	wanted, running int
}{
	"a new hub":                {"0 1 0", 1, 0, 0},
	"no hold of any":           {"5 2 0; 1 web 6; a 5 0 0", 1, 0, 0},
	"no hold of it":            {"5 3 0; 1 web 6, 2 db 1; a 5 0 0; 1 a 5 4 0", 2, 0, 0},
	"no such job":              {"5 3 0; 1 web 6; a 5 0 0; 1 a 5 4 0", 3, 0, 0},
	"one hold":                 {"5 2 0; 1 web 6; a 5 0 0; 1 a 5 3 0", 1, 5, 3},
	"one, and others":          {"5 4 0; 1 web 6, 2 db 1, 3 job 2; a 5 0 0; 1 a 3 1 0, 2 a 1 7 0, 3 a 2 9 0", 2, 1, 7},
	"the first, and others":    {"5 4 0; 1 web 6, 2 db 1, 3 job 2; a 5 0 0; 1 a 3 1 0, 2 a 1 7 0, 3 a 2 9 0", 1, 3, 1},
	"the last, and others":     {"5 4 0; 1 web 6, 2 db 1, 3 job 2; a 5 0 0; 1 a 3 1 0, 2 a 1 7 0, 3 a 2 9 0", 3, 2, 9},
	"three holds":              {"5 2 0; 1 web 6; a 5 0 0, b 5 0 0, c 5 0 0; 1 a 3 1 0, 1 b 2 2 0, 1 c 1 4 0", 1, 6, 7},
	"three holds, and others":  {"5 3 0; 1 web 6, 2 db 9; a 5 0 0, b 5 0 0, c 5 0 0; 1 a 3 1 0, 1 b 2 2 0, 1 c 1 4 0, 2 a 4 4 0, 2 c 5 0 0", 2, 9, 4},
	"one taken away":           {"5 2 0; 1 web 6; a 5 0 0; 1 a 0 3 4", 1, 0, 3},
	"taken away, with nothing": {"5 2 0; 1 web 6; a 5 0 0; 1 a 0 0 4", 1, 0, 0},
	"some taken away":          {"5 2 0; 1 web 6; a 5 0 0, b 5 0 0, c 5 0 0; 1 a 3 1 0, 1 b 0 2 5, 1 c 1 4 0", 1, 4, 7},
	"all taken away":           {"5 2 0; 1 web 6 ends; a 5 0 0, b 5 0 0; 1 a 0 10 1, 1 b 0 2 5", 1, 0, 12},
	"it ends, and is wanted":   {"5 2 0; 1 web 6 ends; a 5 0 0, b 5 0 0; 1 a 2 1 0, 1 b 0 2 5", 1, 2, 3},
	"more run than wanted":     {"5 2 0; 1 web 1; a 5 0 0, b 5 0 0; 1 a 1 10000 0, 1 b 1 10000 0", 1, 2, 20000},
	"more wanted than it wants": {"5 2 0; 1 web 1; a 5 0 0, b 5 0 0; 1 a 10000 0 0, 1 b 10000 0 0",
		1, 20000, 0},
	"a Uid of 0":    {"5 2 0; 1 web 6; a 5 0 0; 1 a 5 3 0", 0, 0, 0},
	"a Uid below 0": {"5 2 0; 1 web 6; a 5 0 0; 1 a 5 3 0", -1, 0, 0},
	"the last Uid":  {"5 1000000 0; 999999 web 6; a 5 0 0; 999999 a 5 3 0", 999999, 5, 3},
	"past the last": {"5 1000000 0; 999999 web 6; a 5 0 0; 999999 a 5 3 0", 1000000, 0, 0},
}

func TestSumsByHand(t *testing.T) {
	for why, x := range sumsByHand {
		h := hubIn(x.hub)
		if !impl.HubOk(h) {
			t.Fatal(why, "is not right")
		}
		if wanted, running := sumsRight(t, h, x.uid); wanted != x.wanted || running != x.running {
			t.Errorf("%s: %d and %d", why, wanted, running)
		}
	}
}

// The sums are asked of whatever holds there are, as no fixed answer is named for hubs that are not right.
func TestSumsOfAnyHub(t *testing.T) {
	for _, x := range []struct {
		hub             string
		uid             int
		wanted, running int
	}{
		{"0 0 0; ; ; 1 a 5 3 0", 1, 5, 3}, {"-1 0 -1; ; ; 3 a 5 3 0, 1 b 1 1 0, 3 a 5 3 0", 3, 10, 6}, {"0 0 0; ; ; 0 a 5 3 0", 0, 5, 3}, {"0 0 0; ; ; -7 a 5 3 0, 7 a 1 1 0", -7, 5, 3}, {"0 0 0; ; ; 1 a 5 3 4", 1, 5, 3}, {"0 0 0; ; ; 1 a -5 -3 0, 1 b 2 9 0", 1, -3, 6}, {"0 0 0; ; ; 1 - 5 3 0, 1 - 6 4 -1", 1, 11, 7}, {"0 0 0; 1 web 5; a 5 0 0; ", 1, 0, 0},
	} {
		if wanted, running := sumsRight(t, hubIn(x.hub), x.uid); wanted != x.wanted || running != x.running {
			t.Errorf("%s: of %d %d and %d", x.hub, x.uid, wanted, running)
		}
	}
	uids := []int{0, 1, 2, 3, 5, 7, 10, 29, -1, mostRev, mostRev + 1, 1 << 32, 1<<32 + 1, math.MaxInt, math.MinInt}
	for _, h := range rightHubs() {
		for _, uid := range uids {
			sumsRight(t, h, uid)
		}
	}
	for why, h := range wrongHubs() {
		for _, uid := range uids {
			wanted, running := sumsByWords(h, uid)
			if impl.Wanted(h, uid) != wanted || impl.Running(h, uid) != running {
				t.Errorf("%.60s: %d", why, uid)
			}
		}
	}
}

// Run by run, what an island is told, and the sums, come of what the hub did.
func TestWorksBehindDeeds(t *testing.T) {
	h := impl.HubNew()
	ops := []impl.Over{over("b", set("port", numOf(81))), over("c", drop("port"))}
	h, _ = doneRight(t, h, submit("web", impl.Want{Copies: 6}, valueIn("{port:80}"), ops...))
	h, _ = doneRight(t, h, submit("db", impl.Want{Copies: 2}, valueIn("[1]")))
	for i, x := range []struct{ deed, a, b, c, sums string }{
		{"clock 1", "", "", "", "0 0 0 0"},
		{"join a 4", "1x4 {port:80}", "", "", "4 0 0 0"},
		{"join b 4", "1x3 {port:80} | 2x1 [1]", "1x3 {port:81} | 2x1 [1]", "", "6 0 2 0"},
		{"report a 5 1x3 2x1", "1x3 {port:80} | 2x1 [1]", "1x3 {port:81} | 2x1 [1]", "", "6 3 2 1"},
		{"report b 5 1x1", "1x3 {port:80} | 2x1 [1]", "1x3 {port:81} | 2x1 [1]", "", "6 4 2 1"},
		{"join c 5", "1x2 {port:80} | 2x1 [1]", "1x2 {port:81} | 2x1 [1]", "1x2 {}", "6 4 2 1"},
		{"resize web 2", "1x1 {port:80} | 2x1 [1]", "1x1 {port:81} | 2x1 [1]", "", "2 4 2 1"},
		{"report c 9 1x2", "1x1 {port:80} | 2x1 [1]", "1x1 {port:81} | 2x1 [1]", "", "2 6 2 1"},
		{"cancel web", "2x1 [1]", "2x1 [1]", "", "0 6 2 1"},
		{"report c 11", "2x1 [1]", "2x1 [1]", "", "0 4 2 1"},
		{"clock 15", "2x1 [1]", "2x1 [1]", "", "0 4 2 1"},
		{"report b 11 2x1", "2x1 [1]", "2x1 [1]", "", "0 3 2 2"},
		{"clock 35", "", "2x2 [1]", "", "0 3 2 2"},
		{"report a 15 1x9 2x2", "2x1 [1]", "2x1 [1]", "", "0 9 2 3"},
		{"expel b", "2x2 [1]", "", "", "0 9 2 2"},
		{"report a 15", "2x2 [1]", "", "", "0 0 2 0"},
		{"submit web 5", "2x2 [1] | 3x2 {}", "", "", "0 0 2 0"},
	} {
		h, _ = doneRight(t, h, deedIn(x.deed))
		for name, told := range map[string]string{"a": x.a, "b": x.b, "c": x.c, "d": ""} {
			if got := worksRight(t, h, name); !sameAll(got, worksIn(told)) {
				t.Errorf("%d: %s: %s is told %v", i, x.deed, name, got)
			}
		}
		wantedA, runningA := sumsRight(t, h, 1)
		wantedB, runningB := sumsRight(t, h, 2)
		if got := strings.TrimSpace(numbersText(wantedA, runningA, wantedB, runningB)); got != x.sums {
			t.Errorf("%d: %s: the sums are %s", i, x.deed, got)
		}
	}
}

func TestWorksOfManyDeeds(t *testing.T) {
	rnd := rand.New(rand.NewSource(12))
	told, patched := 0, 0
	for range 10 {
		h := impl.HubNew()
		for range 110 {
			h, _ = anyDeed(rnd, h).at(h)
			names := []string{"a", "k000", "z", wrongNames[rnd.Intn(len(wrongNames))]}
			for _, p := range h.Posts {
				names = append(names, p.Island.Name)
			}
			for _, name := range names {
				for _, w := range worksRight(t, h, name) {
					told++
					if at := slices.IndexFunc(h.Jobs, func(j impl.Job) bool { return j.Uid == w.Uid }); !alike(h.Jobs[at].Spec, w.Spec) {
						patched++
					}
				}
			}
			for uid := range h.Next + 2 {
				wanted, _ := sumsRight(t, h, uid)
				if at := slices.IndexFunc(h.Jobs, func(j impl.Job) bool { return j.Uid == uid }); at < 0 && wanted > 0 || at >= 0 && wanted > h.Jobs[at].Want.Copies {
					t.Fatalf("%s: of %d %d are wanted", textOfHub(h), uid, wanted)
				}
			}
		}
	}
	if told < 1000 || patched < 100 {
		t.Error("too few were tried:", told, patched)
	}
}

// Jobs of many kinds, rendered on islands of which some have an Over.
func TestRenderOfManyKinds(t *testing.T) {
	rnd := rand.New(rand.NewSource(112))
	names := ascendingNames(6)
	seen := map[bool]int{}
	for range 1500 {
		j := impl.Job{Uid: 1, Name: "web", Spec: anyMap(rnd)}
		for _, name := range anyOf(rnd, 4, names...) {
			ops, behind := []impl.Op{}, j.Spec
			for range rnd.Intn(4) {
				op := anyOp(rnd, behind)
				if v, ok := doneAt(behind, op.Path, op); ok {
					behind = v
				} else if rnd.Intn(3) > 0 {
					continue
				}
				ops = append(ops, op)
			}
			j.Patches = append(j.Patches, over(name, ops...))
		}
		for _, name := range names {
			_, ok := rendersRight(t, j, name)
			seen[ok]++
		}
	}
	if seen[true] < 500 || seen[false] < 250 {
		t.Error("too few were tried:", seen)
	}
}

// What is told shares nothing with the hub or the job, no two lists of it are one, and nothing of it is kept.
func TestWorksAreNewMemory(t *testing.T) {
	shared := sharingHub()
	for i := range shared.Holds {
		shared.Holds[i].Copies, shared.Holds[i].Gone = 2, 0
	}
	for _, h := range []impl.Hub{shared, usual(), roomyCopy(usual()), crowded(mostJobs, mostIslands, mostDead)} {
		before := wholeCopy(h)
		for _, p := range h.Posts {
			name := p.Island.Name
			list := impl.Works(h, name)
			if !allApart(memoryOf(list)) || sharesAny(memoryOf(list), memoryOf(h)) || len(list) == 0 && name != "c" {
				t.Fatalf("%s: %s: a list is shared, or none there", textOfHub(h), name)
			}
			kept := plainCopy(list)
			scribbled(list)
			if !reflect.DeepEqual(wholeCopy(h), before) || !sameAll(impl.Works(h, name), kept) {
				t.Fatalf("%s: %s: it changed with what was told", textOfHub(h), name)
			}
		}
		for _, j := range h.Jobs {
			for _, name := range []string{"a", "b", "none"} {
				v, ok := impl.Render(j, name)
				if lists := memoryOf(v); !ok || !allApart(lists) || sharesAny(lists, memoryOf(h)) {
					t.Fatalf("%v on %s: a list is shared", j, name)
				}
				kept := plainCopy(v)
				scribbled(v)
				if again, _ := impl.Render(j, name); !sameAll(again, kept) || !reflect.DeepEqual(wholeCopy(h), before) {
					t.Fatalf("%v on %s: it changed with what was rendered", j, name)
				}
			}
		}
	}
	h := usual()
	list := impl.Works(h, "a")
	spec, _ := impl.Render(h.Jobs[0], "a")
	keptList, keptSpec := plainCopy(list), plainCopy(spec)
	scribbled(h)
	if !sameAll(list, keptList) || !sameAll(spec, keptSpec) || len(list) != 2 {
		t.Error("what was told changed with the hub")
	}
}

// What lies behind a list's length is not read.
func TestBehindTheLengthOfWorks(t *testing.T) {
	all := append(workRow(mostWorks, 1), workRow(5, 1)...)
	for n := range all {
		if impl.WorksOk(all[:n]) != (n <= mostWorks) {
			t.Error(n)
		}
	}
	h := hubOfWorks("5 4 0; 1 web 3, 2 db 1, 3 job 7; a 9 0 0; 1 a 2 1 0, 2 a 1 1 0, 3 a 3 1 0")
	holds := h.Holds
	for n := range 4 {
		h.Holds = holds[:n]
		if wanted, running := sumsRight(t, h, n); len(impl.Works(h, "a")) != n || n > 0 && wanted == 0 || running != min(n, 1) {
			t.Error(n, wanted, running)
		}
		if wanted, running := sumsRight(t, h, n+1); wanted != 0 || running != 0 {
			t.Error(n, wanted, running)
		}
	}
	patches := []impl.Over{over("a", drop("image"), drop("none")), over("b", drop("image"))}
	j := impl.Job{Spec: webSpec(), Patches: patches[:1]}
	if v, ok := impl.Render(j, "b"); !ok || !alike(v, webSpec()) {
		t.Error("an Over behind the length is read")
	}
	j.Patches[0].Ops = j.Patches[0].Ops[:1]
	if v, ok := impl.Render(j, "a"); !ok || !alike(v, valueIn("{ports:[80]}")) {
		t.Error("an Op behind the length is read")
	}
}

// Whatever the values are, every call ends.
func TestWorksOfValuesWithoutEnd(t *testing.T) {
	one := numOf(1)
	for what, v := range map[string]impl.Value{"a ring of one": ring(1, one), "a ring of five": ring(5, one), "rings in rings": ring(3, ring(2, ring(1, one))), "doubled": doubled(70, one), "deep": nested(one, 100000, false), "many": listOf(many(100000, one)...)} {
		jobs := map[string]impl.Job{"the Spec": {Spec: v}, "the Spec, patched": {Spec: v, Patches: []impl.Over{over("a", drop("0"))}}, "the Spec, without Ops": {Spec: v, Patches: oversOf("a")}, "set": {Spec: webSpec(), Patches: []impl.Over{over("a", set("image", v))}}, "needed": {Spec: webSpec(), Patches: []impl.Over{over("a", need("image", v))}}, "dropped": {Spec: webSpec(), Patches: []impl.Over{over("a", impl.Op{Kind: impl.OpDrop, Path: steps("image"), Value: v})}}}
		for why, j := range jobs {
			if got, ok := impl.Render(j, "a"); ok || !isZero(got) {
				t.Error(what, why, ok)
			}
		}
		if impl.WorksOk([]impl.Work{{Uid: 1, Copies: 1, Spec: v}}) || impl.WorksOk([]impl.Work{{Uid: 1, Copies: 1, Spec: one}, {Uid: 2, Copies: 1, Spec: v}}) {
			t.Error(what, "is taken")
		}
		for _, h := range []impl.Hub{hubWith(func(h *impl.Hub) { h.Jobs[1].Spec = v }), hubWith(func(h *impl.Hub) { h.Jobs[0].Patches[0].Ops[0].Value = v })} {
			if len(impl.Works(h, "a")) != 0 || impl.Wanted(h, 1) != 6 || impl.Running(h, 1) != 7 {
				t.Error(what, "is told")
			}
		}
	}
}

// However long the lists and texts are, every call ends.
func TestVeryLongWorks(t *testing.T) {
	far := strings.Repeat("a", 1000000)
	if impl.WorksOk(slices.Repeat(workRow(1, 1), 1000000)) || impl.WorksOk(workRow(100000, 1)) {
		t.Error("too many are taken")
	}
	patches := append(slices.Repeat(oversOf("a"), 100000), over("b", drop("image")))
	if v, ok := impl.Render(impl.Job{Spec: webSpec(), Patches: patches}, "b"); !ok || !alike(v, valueIn("{ports:[80]}")) {
		t.Error("the last of many:", ok, v)
	}
	if v, ok := impl.Render(impl.Job{Spec: webSpec(), Patches: []impl.Over{over(far, drop("image"))}}, far); !ok || !alike(v, valueIn("{ports:[80]}")) {
		t.Error("a long name:", ok, v)
	}
	if _, ok := impl.Render(impl.Job{Spec: webSpec(), Patches: []impl.Over{over("a", slices.Repeat([]impl.Op{set("a", numOf(1))}, 100000)...)}}, "a"); ok {
		t.Error("many ops are done")
	}
	h := hubWith(func(h *impl.Hub) { h.Holds = slices.Repeat(h.Holds, 10000) })
	if len(impl.Works(h, "a")) != 0 || len(impl.Works(usual(), far)) != 0 || impl.Wanted(h, 1) != 60000 || impl.Running(h, 1) != 70000 {
		t.Error("many holds:", impl.Wanted(h, 1), impl.Running(h, 1))
	}
}
