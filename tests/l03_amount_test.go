package tests

import (
	"math"
	"math/big"
	"math/rand"
	"regexp"
	"slices"
	"strconv"
	"strings"
	"testing"

	"loop.example/g00119/impl"
)

// Promise 3: amounts come back of their text; as many as fit do, one more does not.

const (
	mostAmount = 1000000000000000
	mostTimes  = 1000000
)

var amountForm = regexp.MustCompile(`\A(0|[1-9][0-9]{0,15})(m|k|M|G|Ki|Mi|Gi|)\z`)

// unitSizes are the thousandths of each unit that is read.
var unitSizes = map[string]int{
	"m": 1, "": 1000, "k": 1000000, "M": 1000000000, "G": 1000000000000, "Ki": 1024000, "Mi": 1048576000, "Gi": 1073741824000,
}

// wrongAmounts are no amounts: just below, just above, and so far away that what is made of them wraps round.
var wrongAmounts = []int{-1, mostAmount + 1, -1000, -mostAmount, 2 * mostAmount, 1 << 62, math.MaxInt, math.MinInt, math.MinInt + 1, math.MinInt + mostAmount, 1<<32 + 1<<62}

// edgeAmounts are the amounts at which something is otherwise.
var edgeAmounts = []int{0, 1, 2, 3, 999, 1000, 1001, mostTimes - 1, mostTimes, mostTimes + 1, mostAmount / 1000000, mostAmount/1000000 + 1, mostAmount / 2, mostAmount/2 + 1, mostAmount - 1, mostAmount}

// amountOfText reads a text by its form alone, in numbers that do not wrap round.
func amountOfText(s string) (int, bool) {
	m := amountForm.FindStringSubmatch(s)
	if m == nil {
		return 0, false
	}
	n, _ := new(big.Int).SetString(m[1], 10)
	n.Mul(n, big.NewInt(int64(unitSizes[m[2]])))
	if n.Cmp(big.NewInt(mostAmount)) > 0 {
		return 0, false
	}
	return int(n.Int64()), true
}

// textOfAmount follows the document's words, without asking the program.
func textOfAmount(n int) string {
	switch whole := n / 1000; {
	case n == 0:
		return "0"
	case n%1000 != 0:
		return strconv.Itoa(n) + "m"
	case whole%1073741824 == 0:
		return strconv.Itoa(whole/1073741824) + "Gi"
	case whole%1048576 == 0:
		return strconv.Itoa(whole/1048576) + "Mi"
	case whole%1024 == 0:
		return strconv.Itoa(whole/1024) + "Ki"
	default:
		return strconv.Itoa(whole)
	}
}

func amounts(cpu, memory, copies int) impl.Amounts {
	return impl.Amounts{N: [3]int{cpu, memory, copies}}
}

// withAmount is a with n in this place.
func withAmount(a impl.Amounts, place, n int) impl.Amounts {
	a.N[place] = n
	return a
}

// notAmounts are not AmountsOk: each has a wrong amount in one place, in two, or in all.
func notAmounts() []impl.Amounts {
	out := []impl.Amounts{}
	for _, n := range wrongAmounts {
		for _, right := range []impl.Amounts{{}, amounts(1, 2, 3), amounts(mostAmount, mostAmount, mostAmount)} {
			for place := range 3 {
				out = append(out, withAmount(right, place, n), withAmount(amounts(n, n, n), place, right.N[place]))
			}
		}
		out = append(out, amounts(n, n, n))
	}
	return out
}

func TestAmountConstants(t *testing.T) {
	if impl.ResCpu != 0 || impl.ResMemory != 1 || impl.ResCopies != 2 {
		t.Error("the constants of chapter 3")
	}
}

func TestAmountText(t *testing.T) {
	for n, want := range map[int]string{
		0: "0", 1: "1m", 10: "10m", 999: "999m", 1000: "1", 1001: "1001m", 1500: "1500m", 2000: "2", 10000: "10", 999000: "999", 999999: "999999m",
		1000000: "1000", 1000000000: "1000000", 1000000000000: "1000000000", 1000000001: "1000000001m",
		1023000: "1023", 1024: "1024m", 1024000: "1Ki", 1024001: "1024001m", 1025000: "1025", 1536000: "1536", 2048000: "2Ki", 3072000: "3Ki", 10240000: "10Ki", 1024000000: "1000Ki",
		1048576: "1048576m", 1047552000: "1023Ki", 1048575000: "1048575", 1048576000: "1Mi", 1048577000: "1048577", 1049600000: "1025Ki", 1572864000: "1536Ki", 3145728000: "3Mi",
		1073741824: "1073741824m", 1072693248000: "1023Mi", 1073741823000: "1073741823", 1073741824000: "1Gi", 1073742848000: "1048577Ki", 1074790400000: "1025Mi", 1610612736000: "1536Mi", 3221225472000: "3Gi",
		1099511627776000 / 2: "512Gi", 999653638144000: "931Gi", 999653638145000: "999653638145",
		mostAmount - 1: "999999999999999m", mostAmount: "976562500Ki", mostAmount - 1000: "999999999999",
	} {
		if got := impl.AmountText(n); got != want {
			t.Errorf("%d: %q, not %q", n, got, want)
		}
	}
	for _, n := range wrongAmounts {
		if got := impl.AmountText(n); got != "" {
			t.Errorf("%d is told as %q", n, got)
		}
	}
}

func TestParseAmount(t *testing.T) {
	for s, want := range map[string]int{
		"0": 0, "0m": 0, "0k": 0, "0M": 0, "0G": 0, "0Ki": 0, "0Mi": 0, "0Gi": 0,
		"1m": 1, "1": 1000, "1k": 1000000, "1M": 1000000000, "1G": 1000000000000, "1Ki": 1024000, "1Mi": 1048576000, "1Gi": 1073741824000,
		"10m": 10, "10": 10000, "1000m": 1000, "1500m": 1500, "100k": 100000000, "1024": 1024000, "1024Ki": 1048576000, "1024Mi": 1073741824000, "7G": 7000000000000, "90Mi": 94371840000,
		"1000000000000000m": mostAmount, "1000000000000": mostAmount, "1000000000k": mostAmount, "1000000M": mostAmount, "1000G": mostAmount, "976562500Ki": mostAmount,
		"999999999999999m": mostAmount - 1, "999999999999": mostAmount - 1000, "999G": 999000000000000, "953674Mi": 999999668224000, "931Gi": 999653638144000,
	} {
		if got, ok := impl.ParseAmount(s); got != want || !ok {
			t.Errorf("%q: %d %v, not %d", s, got, ok, want)
		}
	}
}

// refusesAmount asks that a text is refused, with 0 beside it.
func refusesAmount(t *testing.T, s string) {
	t.Helper()
	if got, ok := impl.ParseAmount(s); ok || got != 0 {
		t.Errorf("%.60q: %d %v", s, got, ok)
	}
}

func TestParseAmountRefuses(t *testing.T) {
	for _, s := range []string{
		"", " ", "m", "k", "M", "G", "Ki", "Mi", "Gi", "i", "-", "+", ".",
		"00", "01", "00m", "01m", "007", "01Ki", "00Gi", "0000000000000000", "0000000000000001", "0100000000000000m",
		"-1", "-0", "+1", "+0", "-1m", "1-", "--1", "1.5", "1.0", ".5", "1.", "1,000", "1_000", "1e3", "1E3", "0x1", "0b1", "0o1", "1'000",
		" 1", "1 ", "1\n", "\n1", "\t1", "1 m", "1 Ki", "1m ", "1\x00", "\x001", "1\x00m",
		"1K", "1ki", "1KI", "1kI", "1mi", "1gi", "1g", "1MI", "1T", "1Ti", "1P", "1Pi", "1E", "1Ei", "1n", "1u", "1i", "1b", "1B", "1Kb", "1KB", "1KiB", "1Gib",
		"1mm", "1mk", "1km", "1kk", "1Kim", "1mKi", "1KiKi", "1MG", "1iK", "1Kii", "m1", "Ki1", "1m1", "1Ki1", "1 0", "1m0", "k1k",
		"٣", "１", "1１", "１m", "1µ", "1é", "\xff", "1\xff", "1m\xff", "½", "1\u200b", "1ｍ", "1К",
		"1000000000000001m", "1000000000001", "1000000001k", "1000001M", "1001G", "976562501Ki", "953675Mi", "932Gi",
		"9999999999999999m", "9999999999999999", "9999999999999999k", "9999999999999999M", "9999999999999999G", "9999999999999999Ki", "9999999999999999Mi", "9999999999999999Gi",
		"10000000000000000m", "10000000000000000", "99999999999999999m", "99999999999999999", "9223372036854775807", "9223372036854775808m", "18446744073709551616", "18446744073709551617m", "36893488147419103232Gi",
		strings.Repeat("9", 100000), strings.Repeat("0", 100000), strings.Repeat("1", 100000) + "m", "1" + strings.Repeat("m", 100000), strings.Repeat("1m", 100000),
	} {
		refusesAmount(t, s)
	}
}

// wrapping are numbers whose products with size pass 2^64, or a multiple of it, by little: wrapped round they are small.
func wrapping(size int) []int {
	out := []int{}
	for k := range int64(60) {
		n := new(big.Int).Lsh(big.NewInt(k+1), 64)
		n.Div(n, big.NewInt(int64(size)))
		if n.Cmp(big.NewInt(mostAmount*9)) < 0 {
			out = append(out, int(n.Int64())+1, int(n.Int64())+2)
		}
	}
	return out
}

// Products that wrap round to what would be an amount are refused as all are.
func TestParseAmountDoesNotWrap(t *testing.T) {
	tried := 0
	for unit, size := range unitSizes {
		for _, n := range wrapping(size) {
			tried++
			refusesAmount(t, strconv.Itoa(n)+unit)
		}
	}
	if tried < 500 {
		t.Error("too few were tried:", tried)
	}
}

func readsAmountAsItsForm(t *testing.T, s string) {
	t.Helper()
	want, ok := amountOfText(s)
	if got, gotOk := impl.ParseAmount(s); got != want || gotOk != ok {
		t.Fatalf("%q: %d %v, not %d %v", s, got, gotOk, want, ok)
	}
}

// Of each unit, the greatest number that is an amount is read, and the one behind it is not.
func TestParseAmountAtTheLimit(t *testing.T) {
	for unit, size := range unitSizes {
		most := mostAmount / size
		for _, n := range []int{most - 1, most} {
			if got, ok := impl.ParseAmount(strconv.Itoa(n) + unit); got != n*size || !ok {
				t.Errorf("%d%s: %d %v", n, unit, got, ok)
			}
		}
		for n := most + 1; n < most+5; n++ {
			refusesAmount(t, strconv.Itoa(n)+unit)
		}
	}
}

// Sixteen digits are read where they are an amount; seventeen, or noughts ahead, are not.
func TestParseAmountByHowManyDigits(t *testing.T) {
	for unit := range unitSizes {
		for count := 1; count <= 40; count++ {
			for _, s := range []string{
				"1" + strings.Repeat("0", count-1), strings.Repeat("9", count), strings.Repeat("0", count), strings.Repeat("0", count-1) + "1", strings.Repeat("0", count) + "1000",
			} {
				readsAmountAsItsForm(t, s+unit)
			}
		}
	}
	if n, ok := impl.ParseAmount("1000000000000000m"); n != mostAmount || !ok {
		t.Error("sixteen digits", n, ok)
	}
	refusesAmount(t, "10000000000000000m")
	refusesAmount(t, "01000000000000000m")
}

// Every text of up to five of these pieces is read as its form says.
func TestParseAmountOfAllShortTexts(t *testing.T) {
	pieces := []string{"0", "1", "9", "m", "k", "K", "i", "M", "G", "-", " ", "."}
	eachShortText(5, pieces, func(s string) { readsAmountAsItsForm(t, s) })
}

// Every text that is one byte away from an amount's text is read as its form says.
func TestParseAmountOfNearTexts(t *testing.T) {
	for _, n := range []int{0, 1, 500, 1000, 1500, 12000, 1024000, 1536000, 1048576000, 3221225472000, mostAmount - 1, mostAmount - 1000, mostAmount} {
		eachNearText(impl.AmountText(n), everyByte(), func(s string) { readsAmountAsItsForm(t, s) })
	}
}

func TestSeveralTextsOfOneAmount(t *testing.T) {
	for _, same := range [][]string{
		{"0", "0m", "0k", "0M", "0G", "0Ki", "0Mi", "0Gi"},
		{"1", "1000m"}, {"1000", "1k", "1000000m"}, {"1000000", "1000k", "1M"}, {"1000000000", "1000000k", "1000M", "1G"},
		{"1Ki", "1024", "1024000m"}, {"125Ki", "128k", "128000"}, {"1Mi", "1024Ki", "1048576"}, {"1Gi", "1024Mi", "1048576Ki", "1073741824"}, {"15625Ki", "16M", "16000k"},
		{"976562500Ki", "1000G", "1000000M", "1000000000k", "1000000000000", "1000000000000000m"},
	} {
		n, ok := impl.ParseAmount(same[0])
		for _, s := range same {
			if got, gotOk := impl.ParseAmount(s); got != n || !gotOk || !ok {
				t.Errorf("%q: %d, and %q: %d", same[0], n, s, got)
			}
		}
		if got := impl.AmountText(n); got != same[0] {
			t.Errorf("%q is told as %q", same[0], got)
		}
	}
}

// comesBack asks that an amount is told by the document's words, and comes back of that.
func comesBack(t *testing.T, n int) {
	t.Helper()
	s := impl.AmountText(n)
	if s != textOfAmount(n) {
		t.Fatalf("%d: %q, not %q", n, s, textOfAmount(n))
	}
	if got, ok := impl.ParseAmount(s); got != n || !ok {
		t.Fatalf("%d: %q: %d %v", n, s, got, ok)
	}
}

func TestAmountsComeBackOfTheirText(t *testing.T) {
	for n := range 200000 {
		comesBack(t, n)
		comesBack(t, mostAmount-n)
	}
	for _, size := range unitSizes {
		for _, count := range []int{1, 2, 3, 10, 512, 999, 1000, 1023, 1024, 1025, 1048575, 1048576, 1048577, 1 << 30, mostAmount/size - 1, mostAmount / size} {
			for away := -2002; away <= 2002; away++ {
				if n := count*size + away; count <= mostAmount/size && 0 <= n && n <= mostAmount {
					comesBack(t, n)
				}
			}
		}
	}
	rnd := rand.New(rand.NewSource(3))
	for range 200000 {
		comesBack(t, rnd.Intn(mostAmount+1))
		comesBack(t, rnd.Intn(mostAmount/1000+1)*1000)
		comesBack(t, rnd.Intn(mostAmount/1024000+1)*1024000)
		comesBack(t, rnd.Intn(mostAmount/1048576000+1)*1048576000)
		comesBack(t, rnd.Intn(mostAmount/1073741824000+1)*1073741824000)
	}
}

func TestAmountsOk(t *testing.T) {
	for _, n := range edgeAmounts {
		for _, right := range []impl.Amounts{{}, amounts(1, 2, 3), amounts(mostAmount, mostAmount, mostAmount)} {
			for place := range 3 {
				if a := withAmount(right, place, n); !impl.AmountsOk(a) {
					t.Errorf("%v are amounts", a)
				}
			}
		}
	}
	for _, a := range notAmounts() {
		if impl.AmountsOk(a) {
			t.Errorf("%v are no amounts", a)
		}
	}
}

// byEach works out an amount for each place, in numbers that do not wrap round; false, where one is none.
func byEach(of func(place int) *big.Int) (impl.Amounts, bool) {
	out := impl.Amounts{}
	for place := range 3 {
		n := of(place)
		if n.Sign() < 0 || n.Cmp(big.NewInt(mostAmount)) > 0 {
			return impl.Amounts{}, false
		}
		out.N[place] = int(n.Int64())
	}
	return out, true
}

// areAmounts tells by the document's words alone.
func areAmounts(a impl.Amounts) bool {
	_, ok := byEach(func(i int) *big.Int { return big.NewInt(int64(a.N[i])) })
	return ok
}

func addsRight(t *testing.T, a, b impl.Amounts) {
	t.Helper()
	want, ok := impl.Amounts{}, false
	if areAmounts(a) && areAmounts(b) {
		want, ok = byEach(func(i int) *big.Int { return new(big.Int).Add(big.NewInt(int64(a.N[i])), big.NewInt(int64(b.N[i]))) })
	}
	if got, gotOk := impl.AddAmounts(a, b); got != want || gotOk != ok {
		t.Fatalf("%v and %v: %v %v, not %v %v", a, b, got, gotOk, want, ok)
	}
}

func timesRight(t *testing.T, a impl.Amounts, n int) {
	t.Helper()
	want, ok := impl.Amounts{}, false
	if areAmounts(a) && 0 <= n && n <= mostTimes {
		want, ok = byEach(func(i int) *big.Int { return new(big.Int).Mul(big.NewInt(int64(a.N[i])), big.NewInt(int64(n))) })
	}
	if got, gotOk := impl.Times(a, n); got != want || gotOk != ok {
		t.Fatalf("%d times %v: %v %v, not %v %v", n, a, got, gotOk, want, ok)
	}
}

// below tells whether n times each is nowhere above room.
func below(each impl.Amounts, n int, room impl.Amounts) bool {
	for i := range 3 {
		if new(big.Int).Mul(big.NewInt(int64(each.N[i])), big.NewInt(int64(n))).Cmp(big.NewInt(int64(room.N[i]))) > 0 {
			return false
		}
	}
	return true
}

// fitsRight asks of amounts that are right that as many as fit do, and one more does not, and that Times says the same.
func fitsRight(t *testing.T, each, room impl.Amounts) {
	t.Helper()
	n := impl.Fits(each, room)
	if n < 0 || n > mostTimes || !below(each, n, room) || n < mostTimes && below(each, n+1, room) {
		t.Fatalf("%v in %v: %d", each, room, n)
	}
	if all, ok := impl.Times(each, n); !ok || !below(all, 1, room) {
		t.Fatalf("%d times %v: %v %v", n, each, all, ok)
	}
	if more, ok := impl.Times(each, n+1); n < mostTimes && ok && below(more, 1, room) {
		t.Fatalf("%d times %v: %v", n+1, each, more)
	}
}

func TestAddAmounts(t *testing.T) {
	for _, c := range []struct {
		a, b, want impl.Amounts
		ok         bool
	}{
		{amounts(0, 0, 0), amounts(0, 0, 0), amounts(0, 0, 0), true},
		{amounts(1, 2, 3), amounts(10, 20, 30), amounts(11, 22, 33), true},
		{amounts(0, 0, 0), amounts(mostAmount, mostAmount, mostAmount), amounts(mostAmount, mostAmount, mostAmount), true},
		{amounts(1, mostAmount-5, 0), amounts(mostAmount-1, 5, mostAmount), amounts(mostAmount, mostAmount, mostAmount), true},
		{amounts(1, 0, 0), amounts(mostAmount, 0, 0), amounts(0, 0, 0), false},
		{amounts(0, 6, 0), amounts(0, mostAmount-5, 0), amounts(0, 0, 0), false},
		{amounts(7, 7, mostAmount), amounts(7, 7, 1), amounts(0, 0, 0), false},
		{amounts(mostAmount, mostAmount, mostAmount), amounts(mostAmount, mostAmount, mostAmount), amounts(0, 0, 0), false},
		{amounts(-1, 5, 5), amounts(2, 5, 5), amounts(0, 0, 0), false},
		{amounts(2, 5, 5), amounts(5, 5, -1), amounts(0, 0, 0), false},
		{amounts(mostAmount+1, 5, 5), amounts(-1, 5, 5), amounts(0, 0, 0), false},
		{amounts(math.MaxInt, 0, 0), amounts(math.MinInt+2, 0, 0), amounts(0, 0, 0), false},
	} {
		if got, ok := impl.AddAmounts(c.a, c.b); got != c.want || ok != c.ok {
			t.Errorf("%v and %v: %v %v", c.a, c.b, got, ok)
		}
	}
}

func TestAddAmountsInEachPlace(t *testing.T) {
	for place := range 3 {
		for _, n := range slices.Concat(edgeAmounts, wrongAmounts) {
			for _, m := range slices.Concat(edgeAmounts, wrongAmounts) {
				addsRight(t, withAmount(amounts(4, 5, 6), place, n), withAmount(amounts(7, 8, 9), place, m))
				addsRight(t, withAmount(amounts(4, 5, 6), place, n), withAmount(amounts(7, 8, 9), (place+1)%3, m))
			}
		}
	}
}

func TestTimes(t *testing.T) {
	ten9 := mostAmount / mostTimes
	for _, c := range []struct {
		a    impl.Amounts
		n    int
		want impl.Amounts
		ok   bool
	}{
		{amounts(1, 2, 3), 0, amounts(0, 0, 0), true}, {amounts(1, 2, 3), 1, amounts(1, 2, 3), true}, {amounts(1, 0, 3), 7, amounts(7, 0, 21), true},
		{amounts(0, 0, 0), 0, amounts(0, 0, 0), true}, {amounts(0, 0, 0), mostTimes, amounts(0, 0, 0), true}, {amounts(0, 0, 0), mostTimes + 1, amounts(0, 0, 0), false},
		{amounts(mostAmount, mostAmount, mostAmount), 0, amounts(0, 0, 0), true}, {amounts(mostAmount, 1, mostAmount), 1, amounts(mostAmount, 1, mostAmount), true}, {amounts(0, mostAmount, 0), 2, amounts(0, 0, 0), false},
		{amounts(ten9, 1, 0), mostTimes, amounts(mostAmount, mostTimes, 0), true}, {amounts(ten9, 1, 0), mostTimes + 1, amounts(0, 0, 0), false}, {amounts(1, 1, 1), mostTimes + 1, amounts(0, 0, 0), false},
		{amounts(ten9+1, 1, 0), mostTimes, amounts(0, 0, 0), false}, {amounts(0, ten9+1, 0), mostTimes, amounts(0, 0, 0), false}, {amounts(1, 1, ten9+1), mostTimes, amounts(0, 0, 0), false}, {amounts(1, 1, ten9+1), mostTimes - 1, amounts(999999, 999999, 999999999999999-ten9+1+999999), true},
		{amounts(1, 2, 3), -1, amounts(0, 0, 0), false}, {amounts(0, 0, 0), -1, amounts(0, 0, 0), false}, {amounts(1, 2, 3), math.MinInt, amounts(0, 0, 0), false}, {amounts(0, 0, 0), math.MaxInt, amounts(0, 0, 0), false},
		{amounts(-1, 0, 0), 0, amounts(0, 0, 0), false}, {amounts(0, -1, 0), 1, amounts(0, 0, 0), false}, {amounts(0, 0, mostAmount+1), 0, amounts(0, 0, 0), false}, {amounts(-1, 0, 0), -1, amounts(0, 0, 0), false},
	} {
		if got, ok := impl.Times(c.a, c.n); got != c.want || ok != c.ok {
			t.Errorf("%d times %v: %v %v", c.n, c.a, got, ok)
		}
	}
}

// Among these are products that wrap round to what would be an amount.
func TestTimesInEachPlace(t *testing.T) {
	counts := []int{0, 1, 2, 3, 1000, 18447, 32768, 65536, 131072, 262144, 524288, mostTimes - 1, mostTimes, mostTimes + 1, -1, -2, 1 << 20, 1 << 32, 1 << 49, 1 << 62, math.MaxInt, math.MinInt}
	for place := range 3 {
		for _, n := range counts {
			for _, m := range slices.Concat(edgeAmounts, wrongAmounts, []int{1 << 45, 1 << 46, 1 << 47, 1 << 48, 1 << 49, 562949953421312 + 1}) {
				timesRight(t, withAmount(impl.Amounts{}, place, m), n)
				timesRight(t, withAmount(amounts(1, 2, 3), place, m), n)
			}
			for _, m := range wrapping(max(n, 1)) {
				timesRight(t, withAmount(impl.Amounts{}, place, m), n)
			}
		}
	}
}

func TestFits(t *testing.T) {
	all := amounts(mostAmount, mostAmount, mostAmount)
	for _, c := range []struct {
		each, room impl.Amounts
		want       int
	}{
		{amounts(0, 0, 0), amounts(0, 0, 0), mostTimes}, {amounts(0, 0, 0), amounts(1, 2, 3), mostTimes}, {amounts(0, 0, 0), all, mostTimes},
		{amounts(1, 0, 0), amounts(5, 0, 0), 5}, {amounts(0, 1, 0), amounts(0, 5, 0), 5}, {amounts(0, 0, 1), amounts(0, 0, 5), 5},
		{amounts(1, 1, 1), amounts(7, 8, 9), 7}, {amounts(1, 1, 1), amounts(9, 7, 8), 7}, {amounts(1, 1, 1), amounts(8, 9, 7), 7},
		{amounts(0, 2, 3), amounts(1, 10, 10), 3}, {amounts(2, 0, 3), amounts(10, 1, 10), 3}, {amounts(2, 3, 0), amounts(10, 10, 1), 3}, {amounts(0, 1, 1), amounts(0, 4, 5), 4},
		{amounts(500, 0, 1000), amounts(2000, 7, 3000), 3}, {amounts(3, 3, 3), amounts(8, 9, 10), 2}, {amounts(3, 3, 3), amounts(9, 9, 9), 3},
		{amounts(2, 1, 1), amounts(1, 9, 9), 0}, {amounts(1, 2, 1), amounts(9, 1, 9), 0}, {amounts(1, 1, 2), amounts(9, 9, 1), 0}, {amounts(2, 2, 2), amounts(1, 1, 1), 0}, {amounts(1, 1, 1), amounts(0, 0, 0), 0}, {all, amounts(0, 0, 0), 0},
		{amounts(1, 0, 0), amounts(mostTimes-1, 0, 0), mostTimes - 1}, {amounts(1, 0, 0), amounts(mostTimes, 0, 0), mostTimes}, {amounts(1, 0, 0), amounts(mostTimes+1, 0, 0), mostTimes}, {amounts(1, 1, 1), all, mostTimes},
		{amounts(1000000000, 0, 0), all, mostTimes}, {amounts(1000000001, 0, 0), all, mostTimes - 1}, {amounts(0, 0, 1000000001), all, mostTimes - 1},
		{all, all, 1}, {all, amounts(mostAmount, mostAmount, mostAmount-1), 0}, {amounts(mostAmount/2, 0, 0), all, 2}, {amounts(mostAmount/2+1, 0, 0), all, 1},
	} {
		if got := impl.Fits(c.each, c.room); got != c.want {
			t.Errorf("%v in %v: %d, not %d", c.each, c.room, got, c.want)
		}
		fitsRight(t, c.each, c.room)
	}
}

func TestFitsOfWrongAmounts(t *testing.T) {
	for _, wrong := range notAmounts() {
		for _, right := range []impl.Amounts{{}, amounts(1, 2, 3), amounts(mostAmount, mostAmount, mostAmount)} {
			if a, b := impl.Fits(wrong, right), impl.Fits(right, wrong); a != 0 || b != 0 {
				t.Errorf("%v and %v: %d %d", wrong, right, a, b)
			}
		}
		if n := impl.Fits(wrong, wrong); n != 0 {
			t.Errorf("%v: %d", wrong, n)
		}
	}
}

func TestFitsOfAllSmallAmounts(t *testing.T) {
	all := []impl.Amounts{}
	for a := range 6 {
		for b := range 6 {
			for c := range 6 {
				all = append(all, amounts(a, b, c))
			}
		}
	}
	for _, each := range all {
		for _, room := range all {
			fitsRight(t, each, room)
		}
	}
}

// anyAmount is small, near an edge, or anything up to the greatest.
func anyAmount(rnd *rand.Rand) int {
	switch rnd.Intn(4) {
	case 0:
		return rnd.Intn(10)
	case 1:
		return edgeAmounts[rnd.Intn(len(edgeAmounts))]
	case 2:
		return rnd.Intn(1 << rnd.Intn(50))
	}
	return rnd.Intn(mostAmount + 1)
}

func anyAmounts(rnd *rand.Rand) impl.Amounts {
	a := amounts(anyAmount(rnd), anyAmount(rnd), anyAmount(rnd))
	if rnd.Intn(3) == 0 {
		a.N[rnd.Intn(3)] = 0
	}
	return a
}

func TestAmountsOfManyKinds(t *testing.T) {
	rnd := rand.New(rand.NewSource(33))
	for range 100000 {
		a, b := anyAmounts(rnd), anyAmounts(rnd)
		fitsRight(t, a, b)
		addsRight(t, a, b)
		timesRight(t, a, rnd.Intn(mostTimes+2))
		timesRight(t, a, impl.Fits(a, b))
		timesRight(t, a, impl.Fits(a, b)+1)
	}
}
