package tests

import (
	"math"
	"math/big"
	"math/rand"
	"slices"
	"testing"

	"loop.example/g00119/impl"
)

// Promise 6: what is divided is Total in all; nobody has more than its cap.

const (
	mostShares = 64
	mostWeight = 1000
	mostCopies = 10000
)

// division is what Divide and Total are asked.
type division struct {
	n             int
	weights, caps []int
}

// row has n so many times.
func row(count, n int) []int {
	return slices.Repeat([]int{n}, count)
}

// withN is a copy of l with n in this place.
func withN(l []int, place, n int) []int {
	l = slices.Clone(l)
	l[place] = n
	return l
}

// The document's words once more.

func isDivision(d division) bool {
	ok := 0 <= d.n && d.n <= mostCopies && len(d.weights) <= mostShares && len(d.caps) == len(d.weights)
	for _, w := range d.weights {
		ok = ok && 0 <= w && w <= mostWeight
	}
	for _, c := range d.caps {
		ok = ok && 0 <= c && c <= mostCopies
	}
	return ok
}

// roomOf is what the caps of those with a weight are in all.
func roomOf(d division) int {
	room := 0
	for i, c := range d.caps {
		if d.weights[i] > 0 {
			room += c
		}
	}
	return room
}

func totalByWords(d division) int {
	if !isDivision(d) {
		return -1
	}
	return min(d.n, roomOf(d))
}

// givenOnce divides m among the open ones by their weights, by quotas that are not rounded, without asking for caps.
func givenOnce(m int, weights []int, open map[int]bool) []int {
	sum := 0
	for i := range open {
		sum += weights[i]
	}
	gets, rests, left := row(len(weights), 0), map[int]*big.Rat{}, m
	for i := range open {
		quota := big.NewRat(int64(m*weights[i]), int64(sum))
		gets[i] = int(new(big.Int).Quo(quota.Num(), quota.Denom()).Int64())
		rests[i] = quota.Sub(quota, big.NewRat(int64(gets[i]), 1))
		left -= gets[i]
	}
	for range left {
		best := -1
		for i := range weights {
			if rests[i] != nil && (best < 0 || rests[i].Cmp(rests[best]) > 0) {
				best = i
			}
		}
		gets[best]++
		delete(rests, best)
	}
	return gets
}

func dividedByWords(d division) []int {
	if !isDivision(d) {
		return nil
	}
	has := row(len(d.weights), 0)
	for m := d.n; ; {
		open := map[int]bool{}
		for i, w := range d.weights {
			if w > 0 && has[i] < d.caps[i] {
				open[i] = true
			}
		}
		if m == 0 || len(open) == 0 {
			return has
		}
		gets := givenOnce(m, d.weights, open)
		m = 0
		for i := range gets {
			for range gets[i] {
				if has[i] < d.caps[i] {
					has[i]++
				} else {
					m++
				}
			}
		}
	}
}

func fairByWords(d division, shares []int) bool {
	if !isDivision(d) || len(shares) != len(d.weights) {
		return false
	}
	sum := 0
	for i, s := range shares {
		if s < 0 || s > d.caps[i] || d.weights[i] == 0 && s != 0 {
			return false
		}
		sum += s
	}
	for i, s := range shares {
		for j, other := range shares {
			if d.weights[i] > 0 && d.weights[j] > 0 && s < d.caps[i] && (s+1)*d.weights[j] < (other-1)*d.weights[i] {
				return false
			}
		}
	}
	return sum == totalByWords(d)
}

// fairRight asks FairOk for what the words say.
func fairRight(t *testing.T, d division, shares []int) {
	t.Helper()
	if got, want := impl.FairOk(d.n, d.weights, d.caps, shares), fairByWords(d, shares); got != want {
		t.Fatalf("%v: %v: %v, not %v", d, shares, got, want)
	}
}

// keepsPromise6 asks that shares are Total in all, and that nobody has more than its cap, or any without a weight.
func keepsPromise6(t *testing.T, d division, shares []int) {
	t.Helper()
	sum := 0
	for i, s := range shares {
		sum += s
		if s < 0 || s > d.caps[i] || d.weights[i] == 0 && s != 0 {
			t.Fatalf("%v: %v: what place %d has", d, shares, i)
		}
	}
	if total := impl.Total(d.n, d.weights, d.caps); sum != total || len(shares) != len(d.weights) {
		t.Fatalf("%v: %v, and Total %d", d, shares, total)
	}
}

// dividesRight asks Divide and Total for what the words say, and the promise, and tells the answer.
func dividesRight(t *testing.T, d division) []int {
	t.Helper()
	kept := division{d.n, slices.Clone(d.weights), slices.Clone(d.caps)}
	shares, total := impl.Divide(d.n, d.weights, d.caps), impl.Total(d.n, d.weights, d.caps)
	if !slices.Equal(d.weights, kept.weights) || !slices.Equal(d.caps, kept.caps) {
		t.Fatalf("%v: an argument was changed: %v", kept, d)
	}
	if want := dividedByWords(d); !slices.Equal(shares, want) {
		t.Fatalf("%v: %v, not %v", d, shares, want)
	}
	if want := totalByWords(d); total != want {
		t.Fatalf("%v: Total %d, not %d", d, total, want)
	}
	if isDivision(d) {
		keepsPromise6(t, d, shares)
	}
	fairRight(t, d, shares)
	return shares
}

// fairAround asks FairOk of shares, and of those that differ by one at a place, by one that moved, by a place more or fewer.
func fairAround(t *testing.T, d division, shares []int) {
	t.Helper()
	fairRight(t, d, shares)
	for i := range shares {
		fairRight(t, d, shares[:i])
		fairRight(t, d, withN(shares, i, shares[i]+1))
		fairRight(t, d, withN(shares, i, shares[i]-1))
		for j := range shares {
			if i != j {
				fairRight(t, d, withN(withN(shares, i, shares[i]-1), j, shares[j]+1))
			}
		}
	}
	for _, n := range []int{0, 1, -1} {
		fairRight(t, d, append(slices.Clone(shares), n))
		fairRight(t, d, append([]int{n}, shares...))
	}
}

func TestShareConstants(t *testing.T) {
	if impl.MaxShares != mostShares || impl.MaxWeight != mostWeight || impl.MaxCopies != mostCopies {
		t.Error("the constants of chapter 6")
	}
}

// firstOnes has n in each place, and one more in the first ones of them.
func firstOnes(count, n, more int) []int {
	return append(row(more, n+1), row(count-more, n)...)
}

// dividedByHand are divisions with what they must answer, by what they are there for.
var dividedByHand = map[string][]struct {
	division
	want []int
}{
	"how many": {
		{division{0, []int{1}, []int{1}}, []int{0}}, {division{0, []int{1, 2}, []int{5, 5}}, []int{0, 0}},
		{division{1, []int{1, 1, 1}, []int{9, 9, 9}}, []int{1, 0, 0}}, {division{1, []int{1, 2, 1}, []int{9, 9, 9}}, []int{0, 1, 0}}, {division{1, []int{1, 2}, []int{9, 0}}, []int{1, 0}},
		{division{9, []int{1}, []int{9}}, []int{9}}, {division{mostCopies, []int{1}, []int{mostCopies}}, []int{mostCopies}}, {division{mostCopies - 1, []int{7}, []int{mostCopies}}, []int{mostCopies - 1}},
		{division{mostCopies, row(3, 1), row(3, mostCopies)}, []int{3334, 3333, 3333}},
	},
	"how many weights": {
		{division{0, nil, nil}, nil}, {division{1, []int{}, nil}, nil}, {division{mostCopies, nil, []int{}}, nil},
		{division{mostShares, row(mostShares, 1), row(mostShares, 9)}, row(mostShares, 1)}, {division{mostCopies, row(mostShares, mostWeight), row(mostShares, mostCopies)}, firstOnes(mostShares, 156, 16)},
		{division{mostCopies, row(mostShares, 3), row(mostShares, 156)}, row(mostShares, 156)}, {division{63, row(mostShares, 2), row(mostShares, 1)}, append(row(63, 1), 0)},
	},
	"by weights": {
		{division{10, []int{5, 3, 2}, []int{99, 99, 99}}, []int{5, 3, 2}}, {division{7, []int{2, 1}, []int{99, 99}}, []int{5, 2}}, {division{3, []int{1, 2, 1}, []int{9, 9, 9}}, []int{1, 1, 1}},
		{division{7, []int{0, 1}, []int{9, 9}}, []int{0, 7}}, {division{10, []int{1, 0, 1}, []int{3, 99, 4}}, []int{3, 0, 4}}, {division{5, []int{0, 0}, []int{9, 9}}, []int{0, 0}}, {division{5, row(mostShares, 0), row(mostShares, mostCopies)}, row(mostShares, 0)},
		{division{mostCopies, []int{mostWeight, 1}, []int{mostCopies, mostCopies}}, []int{9990, 10}}, {division{1, []int{1, mostWeight}, []int{9, 9}}, []int{0, 1}}, {division{9, []int{mostWeight, mostWeight}, []int{9, 9}}, []int{5, 4}},
	},
	"caps": {
		{division{5, []int{1, 2}, []int{0, 0}}, []int{0, 0}}, {division{5, []int{1, 2}, []int{0, 9}}, []int{0, 5}}, {division{5, []int{1, 2}, []int{9, 0}}, []int{5, 0}},
		{division{6, []int{1, 1, 1}, []int{1, 2, 3}}, []int{1, 2, 3}}, {division{7, []int{1, 1, 1}, []int{1, 2, 3}}, []int{1, 2, 3}}, {division{5, []int{1, 1, 1}, []int{1, 2, 3}}, []int{1, 2, 2}},
		{division{6, []int{5, 1, 1}, []int{1, 2, 3}}, []int{1, 2, 3}}, {division{7, []int{5, 1, 1}, []int{1, 2, 3}}, []int{1, 2, 3}}, {division{6, []int{5, 0, 1}, []int{1, 2, 3}}, []int{1, 0, 3}},
		{division{mostCopies, []int{1, 1}, []int{mostCopies, 1}}, []int{mostCopies - 1, 1}},
	},
	"a quota above a cap": {
		{division{10, []int{1, 1}, []int{2, 99}}, []int{2, 8}}, {division{10, []int{1, 1}, []int{99, 2}}, []int{8, 2}}, {division{100, []int{10, 5, 3, 2}, []int{10, 20, 99, 99}}, []int{10, 20, 42, 28}},
		{division{20, []int{1, 1, 1, 1}, []int{1, 6, 8, 99}}, []int{1, 6, 7, 6}}, {division{30, []int{8, 4, 2, 1}, []int{2, 5, 9, 99}}, []int{2, 5, 9, 14}},
	},
	"equal rests": {
		{division{5, row(4, 1), row(4, 9)}, []int{2, 1, 1, 1}}, {division{6, row(4, 1), row(4, 9)}, []int{2, 2, 1, 1}}, {division{7, row(4, 1), row(4, 9)}, []int{2, 2, 2, 1}},
		{division{1, []int{0, 2, 2}, []int{9, 9, 9}}, []int{0, 1, 0}}, {division{1, []int{1, 1}, []int{0, 9}}, []int{0, 1}}, {division{2, []int{1, 3, 3}, []int{9, 9, 9}}, []int{0, 1, 1}}, {division{1, []int{1, 3, 3}, []int{9, 9, 9}}, []int{0, 1, 0}},
	},
	"more left than there are open ones": {
		{division{9, []int{1, 1, 1}, []int{0, 0, 9}}, []int{0, 0, 9}}, {division{17, []int{1, 1, 1}, []int{2, 2, 99}}, []int{2, 2, 13}}, {division{17, []int{1, 1, 1}, []int{2, 2, 9}}, []int{2, 2, 9}},
	},
	"one above a cap that is met": {
		{division{5, []int{1, 1, 1}, []int{1, 1, 99}}, []int{1, 1, 3}}, {division{4, []int{3, 3, 3}, []int{1, 9, 9}}, []int{1, 2, 1}},
		// The last one has the greatest rest: what it can not hold is divided anew by the weights, not given to the next greatest rest.
		{division{13, []int{5, 3, 1}, []int{99, 99, 2}}, []int{7, 4, 2}}, {division{13, []int{5, 3, 1}, []int{99, 99, 1}}, []int{8, 4, 1}},
	},
	"fewer than there are weights": {
		{division{2, row(4, 1), row(4, 1)}, []int{1, 1, 0, 0}}, {division{3, []int{1, 2, 3, 4, 5}, row(5, 9)}, []int{0, 0, 1, 1, 1}}, {division{2, []int{1, 2, 3, 4, 5}, []int{9, 9, 9, 9, 0}}, []int{0, 0, 1, 1, 0}},
		{division{1, append(row(mostShares-1, 1), 2), row(mostShares, 1)}, append(row(mostShares-1, 0), 1)},
	},
}

func TestDivide(t *testing.T) {
	for why, list := range dividedByHand {
		for _, x := range list {
			if got := impl.Divide(x.n, x.weights, x.caps); !slices.Equal(got, x.want) {
				t.Errorf("%s: %v: %v, not %v", why, x.division, got, x.want)
			}
			fairAround(t, x.division, dividesRight(t, x.division))
		}
	}
}

func TestTotal(t *testing.T) {
	for _, x := range []struct {
		division
		want int
	}{
		{division{0, nil, nil}, 0}, {division{5, nil, nil}, 0}, {division{0, []int{1}, []int{9}}, 0}, {division{8, []int{1}, []int{9}}, 8}, {division{9, []int{1}, []int{9}}, 9}, {division{10, []int{1}, []int{9}}, 9},
		{division{10, []int{1, 1}, []int{4, 5}}, 9}, {division{10, []int{1, 0}, []int{4, 50}}, 4}, {division{10, []int{0, 1}, []int{4, 50}}, 10}, {division{10, []int{0, 0}, []int{50, 50}}, 0}, {division{10, []int{3, 4}, []int{0, 0}}, 0},
		{division{mostCopies, row(mostShares, mostWeight), row(mostShares, mostCopies)}, mostCopies}, {division{mostCopies, row(mostShares, 1), row(mostShares, 156)}, 9984}, {division{mostCopies, row(mostShares, 1), row(mostShares, 157)}, mostCopies},
	} {
		if got := impl.Total(x.n, x.weights, x.caps); got != x.want {
			t.Errorf("%v: %d, not %d", x.division, got, x.want)
		}
		dividesRight(t, x.division)
	}
}

// farNumbers are wrong as n, as a weight and as a cap.
var farNumbers = []int{-1, -2, -mostCopies, mostCopies + 1, 2 * mostCopies, 1 << 31, 1 << 32, 1 << 62, 1<<32 + 1, math.MaxInt, math.MinInt, math.MinInt + 1}

// notDivisions are not as told, by what is wrong with them.
func notDivisions() map[string][]division {
	out := map[string][]division{
		"how many weights": {
			{5, row(mostShares+1, 1), row(mostShares+1, 9)}, {5, row(mostShares+1, 0), row(mostShares+1, 0)}, {0, row(1000, 1), row(1000, 1)}, {5, row(mostShares+1, 1), row(mostShares, 9)},
		},
		"how many caps": {
			{5, []int{1, 1}, []int{9, 9, 9}}, {5, []int{1, 1}, []int{9, 9, 0}}, {5, []int{1, 1}, []int{9}}, {5, []int{1, 0}, []int{9}}, {1, []int{1}, nil}, {0, []int{1}, nil}, {0, nil, []int{1}}, {5, nil, []int{0}}, {5, row(mostShares, 1), row(mostShares+1, 9)}, {5, row(mostShares, 1), row(mostShares-1, 9)},
		},
		"all of it": {{-1, []int{-1}, []int{-1}}, {mostCopies + 1, row(mostShares+1, mostWeight+1), row(mostShares+2, mostCopies+1)}, {-1, []int{1}, nil}},
	}
	for _, right := range []division{{0, nil, nil}, {5, []int{1}, []int{9}}, {5, []int{1, 2, 3}, []int{9, 9, 9}}, {mostCopies, row(mostShares, mostWeight), row(mostShares, mostCopies)}} {
		for _, far := range farNumbers {
			out["n"] = append(out["n"], division{far, right.weights, right.caps})
			for place := range right.weights {
				out["a weight"] = append(out["a weight"], division{right.n, withN(right.weights, place, far), right.caps}, division{right.n, withN(right.weights, place, mostWeight+1), right.caps}, division{right.n, withN(right.weights, place, far), row(len(right.caps), 0)})
				out["a cap"] = append(out["a cap"], division{right.n, right.weights, withN(right.caps, place, far)}, division{right.n, row(len(right.weights), 0), withN(right.caps, place, far)})
			}
		}
	}
	return out
}

func TestNoDivisions(t *testing.T) {
	for why, list := range notDivisions() {
		for _, d := range list {
			if got := impl.Divide(d.n, d.weights, d.caps); len(got) != 0 {
				t.Errorf("%s: %v: %v", why, d, got)
			}
			if got := impl.Total(d.n, d.weights, d.caps); got != -1 {
				t.Errorf("%s: %v: %d", why, d, got)
			}
			for _, shares := range [][]int{nil, {-1}, {d.n}, row(len(d.weights), 0), row(len(d.caps), 0), slices.Clone(d.caps), append(row(max(len(d.weights), 1)-1, 0), d.n), append(row(max(len(d.weights), 1)-1, 0), -1)} {
				if impl.FairOk(d.n, d.weights, d.caps, shares) {
					t.Errorf("%s: %v: %v is fair", why, d, shares)
				}
			}
		}
	}
}

// At each limit what is met is accepted, and what passes it by one is not.
func TestDivideAtTheLimits(t *testing.T) {
	for _, x := range []struct {
		division
		ok bool
	}{
		{division{0, []int{1}, []int{1}}, true}, {division{-1, []int{1}, []int{1}}, false}, {division{mostCopies, []int{1}, []int{1}}, true}, {division{mostCopies + 1, []int{1}, []int{1}}, false},
		{division{1, []int{0}, []int{1}}, true}, {division{1, []int{-1}, []int{1}}, false}, {division{1, []int{mostWeight}, []int{1}}, true}, {division{1, []int{mostWeight + 1}, []int{1}}, false},
		{division{1, []int{1}, []int{0}}, true}, {division{1, []int{1}, []int{-1}}, false}, {division{1, []int{1}, []int{mostCopies}}, true}, {division{1, []int{1}, []int{mostCopies + 1}}, false},
		{division{1, row(mostShares, 1), row(mostShares, 1)}, true}, {division{1, row(mostShares+1, 1), row(mostShares+1, 1)}, false},
	} {
		shares, total := impl.Divide(x.n, x.weights, x.caps), impl.Total(x.n, x.weights, x.caps)
		if (len(shares) == len(x.weights)) != x.ok || (total >= 0) != x.ok || impl.FairOk(x.n, x.weights, x.caps, dividedByWords(x.division)) != x.ok {
			t.Errorf("%v: %v %d", x.division, shares, total)
		}
		dividesRight(t, x.division)
	}
}

func TestFairOk(t *testing.T) {
	even := division{10, []int{1, 1}, []int{99, 99}}
	double := division{9, []int{1, 2}, []int{99, 99}}
	tight := division{10, []int{1, 1}, []int{3, 4}}
	idle := division{3, []int{1, 0}, []int{9, 9}}
	none := division{5, nil, nil}
	for _, x := range []struct {
		division
		shares []int
		want   bool
	}{
		{even, []int{5, 5}, true}, {even, []int{4, 6}, true}, {even, []int{6, 4}, true}, {even, []int{3, 7}, false}, {even, []int{7, 3}, false}, {even, []int{0, 10}, false}, {even, []int{10, 0}, false},
		{double, []int{3, 6}, true}, {double, []int{2, 7}, true}, {double, []int{4, 5}, true}, {double, []int{1, 8}, false}, {double, []int{5, 4}, false},
		{division{10, []int{1, 1}, []int{2, 99}}, []int{2, 8}, true}, {division{10, []int{1, 1}, []int{3, 99}}, []int{3, 7}, true}, {division{10, []int{1, 1}, []int{4, 99}}, []int{3, 7}, false}, {division{10, []int{1, 1}, []int{99, 3}}, []int{7, 3}, true}, {division{10, []int{1, 1}, []int{99, 4}}, []int{7, 3}, false},
		{even, []int{5, 6}, false}, {even, []int{6, 5}, false}, {even, []int{5, 4}, false}, {even, []int{4, 5}, false}, {even, []int{0, 0}, false},
		{tight, []int{3, 4}, true}, {tight, []int{3, 3}, false}, {tight, []int{2, 4}, false}, {tight, []int{4, 3}, false}, {tight, []int{3, 5}, false}, {tight, []int{5, 5}, false},
		{even, []int{-1, 11}, false}, {even, []int{11, -1}, false}, {division{1, []int{1, 1}, []int{9, 9}}, []int{2, -1}, false}, {division{10, []int{1, 1}, []int{4, 99}}, []int{5, 5}, false},
		{idle, []int{3, 0}, true}, {idle, []int{2, 1}, false}, {idle, []int{3, 1}, false}, {idle, []int{3, -1}, false}, {idle, []int{4, -1}, false}, {idle, []int{0, 3}, false}, {division{3, []int{0, 0}, []int{9, 9}}, []int{0, 0}, true}, {division{3, []int{0, 0}, []int{9, 9}}, []int{0, 3}, false},
		{even, nil, false}, {even, []int{10}, false}, {even, []int{5}, false}, {even, []int{5, 5, 0}, false}, {even, []int{0, 5, 5}, false}, {even, []int{5, 4, 1}, false},
		{none, nil, true}, {none, []int{}, true}, {none, []int{0}, false}, {none, []int{5}, false}, {division{0, nil, nil}, nil, true}, {division{-1, nil, nil}, nil, false}, {division{mostCopies + 1, nil, nil}, nil, false},
		{division{0, []int{1, 1}, []int{9, 9}}, []int{0, 0}, true}, {division{0, []int{1, 1}, []int{9, 9}}, []int{1, -1}, false}, {division{1, []int{1, mostWeight}, []int{9, 9}}, []int{1, 0}, true}, {division{2, []int{1, mostWeight}, []int{9, 9}}, []int{2, 0}, false},
		{division{10, row(3, 1), row(3, 9)}, []int{math.MaxInt, math.MaxInt, 12}, false}, {division{10, row(3, 1), row(3, 9)}, []int{math.MinInt, math.MinInt, 10}, false}, {division{10, row(2, 1), row(2, 9)}, []int{math.MinInt, math.MinInt + 10}, false},
		{division{mostCopies, []int{mostWeight, mostWeight}, []int{mostCopies, mostCopies}}, []int{5000, 5000}, true}, {division{mostCopies, []int{mostWeight, mostWeight}, []int{mostCopies, mostCopies}}, []int{0, mostCopies}, false},
	} {
		if got := impl.FairOk(x.n, x.weights, x.caps, x.shares); got != x.want {
			t.Errorf("%v: %v: %v", x.division, x.shares, got)
		}
		fairRight(t, x.division, x.shares)
	}
}

// Each time what is left is rounded anew, so that what Divide answers need not be FairOk.
func TestWhatIsDividedNeedNotBeFair(t *testing.T) {
	for _, x := range []struct {
		division
		want []int
	}{
		{division{39, []int{1, 1, 6, 1}, []int{99, 1, 99, 99}}, []int{6, 1, 28, 4}}, {division{24, []int{4, 2, 3, 3, 1, 3}, []int{3, 99, 99, 6, 4, 2}}, []int{3, 4, 8, 6, 1, 2}},
	} {
		if got := dividesRight(t, x.division); !slices.Equal(got, x.want) || impl.FairOk(x.n, x.weights, x.caps, got) {
			t.Errorf("%v: %v", x.division, got)
		}
	}
}

// eachRow calls do with each list of so many numbers, each from least to most.
func eachRow(count, least, most int, do func(l []int)) {
	if count == 0 {
		do(nil)
		return
	}
	eachRow(count-1, least, most, func(l []int) {
		for n := least; n <= most; n++ {
			do(append(slices.Clone(l), n))
		}
	})
}

func TestDivideOfAllSmallOnes(t *testing.T) {
	for count := range 4 {
		eachRow(count, 0, 3, func(weights []int) {
			eachRow(count, 0, 4, func(caps []int) {
				for n := range 9 {
					dividesRight(t, division{n, weights, caps})
				}
			})
		})
	}
}

// Of all small divisions that are wrong in one place or in several the answers are the fixed ones.
func TestDivideOfAllSmallOnesAroundRight(t *testing.T) {
	for count := range 3 {
		for others := range 4 {
			eachRow(count, -1, 2, func(weights []int) {
				eachRow(others, -1, 2, func(caps []int) {
					for n := -1; n < 4; n++ {
						dividesRight(t, division{n, weights, caps})
					}
				})
			})
		}
	}
}

func TestFairOkOfAllSmallShares(t *testing.T) {
	for count := range 4 {
		eachRow(count, 0, 2, func(weights []int) {
			eachRow(count, -1, 5, func(shares []int) {
				for n := range 9 {
					fairRight(t, division{n, weights, row(count, 4)}, shares)
				}
				for _, caps := range [][]int{{1, 2, 4}, {4, 1, 2}, {3, 3, 0}} {
					fairRight(t, division{5, weights, caps[:count]}, shares)
				}
			})
		})
	}
}

// anyNumber is 0 or 1, small, near most, or anything up to it.
func anyNumber(rnd *rand.Rand, most int) int {
	switch rnd.Intn(4) {
	case 0:
		return rnd.Intn(2)
	case 1:
		return rnd.Intn(12)
	case 2:
		return most - rnd.Intn(3)
	}
	return rnd.Intn(most + 1)
}

// anyDivision is right; its caps are often near what n gives each.
func anyDivision(rnd *rand.Rand) division {
	d := division{n: anyNumber(rnd, mostCopies)}
	count, mostN, mostC := rnd.Intn(9), 1+rnd.Intn(mostWeight), mostCopies
	if rnd.Intn(10) == 0 {
		count = mostShares - rnd.Intn(2)
	}
	if rnd.Intn(2) == 0 {
		mostN = 1 + rnd.Intn(5)
	}
	if rnd.Intn(3) > 0 {
		mostC = min(mostCopies, 2+3*d.n/(count+1))
	}
	for range count {
		d.weights = append(d.weights, rnd.Intn(mostN+1))
		d.caps = append(d.caps, anyNumber(rnd, mostC)%(mostC+1))
	}
	return d
}

func TestDivideOfManyKinds(t *testing.T) {
	rnd := rand.New(rand.NewSource(6))
	for range 30000 {
		d := anyDivision(rnd)
		shares := dividesRight(t, d)
		if len(shares) < 9 {
			fairAround(t, d, shares)
		}
	}
}

// Where the caps are enough to just this many, all of them are given; one short, all but one.
func TestDivideToTheLastOne(t *testing.T) {
	rnd := rand.New(rand.NewSource(66))
	for range 10000 {
		d := anyDivision(rnd)
		room := roomOf(d)
		for n := max(room-1, 0); n <= min(room+1, mostCopies); n++ {
			shares := dividesRight(t, division{n, d.weights, d.caps})
			for i, s := range shares {
				if n >= room && d.weights[i] > 0 && s != d.caps[i] {
					t.Fatalf("%v of %d: %v", d, n, shares)
				}
			}
		}
	}
}

// What is answered is new memory, and neither the arguments nor what lies behind them is written or read.
func TestDividedIsNewMemory(t *testing.T) {
	spare := func(l ...int) []int { return append(l, 7, 7, 7)[:len(l)] }
	behind := func(l []int) []int { return l[:len(l)+3][len(l):] }
	weights, caps := spare(1, 1, 2), spare(2, 99, 99)
	shares := impl.Divide(10, weights, caps)
	fair := spare(slices.Clone(shares)...)
	if !impl.FairOk(10, weights, caps, fair) || impl.Total(10, weights, caps) != 10 {
		t.Error(shares)
	}
	for _, l := range [][]int{weights, caps, fair} {
		if !slices.Equal(behind(l), []int{7, 7, 7}) {
			t.Error("what lies behind was written", behind(l))
		}
	}
	kept := slices.Clone(shares)
	for _, l := range [][]int{weights, caps} {
		for i := range l {
			l[i] = 5
		}
	}
	if !slices.Equal(shares, kept) {
		t.Error("an argument is shared", shares, kept)
	}
	shares = append(shares, 4, 4, 4)
	shares[0] = 77
	if !slices.Equal(weights, row(3, 5)) || !slices.Equal(caps, row(3, 5)) || !slices.Equal(impl.Divide(10, []int{1, 1, 2}, []int{2, 99, 99}), kept) {
		t.Error("what was answered is kept")
	}
}
