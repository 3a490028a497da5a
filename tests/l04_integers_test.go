package tests

import (
	"math/big"
	"math/rand"
	"slices"
	"strconv"
	"strings"
	"sync"
	"testing"

	"loop.example/g00921/impl"
)

// greatestPrime is the greatest prime below MaxTerm, and rich the number up to it with the most divisors.
const (
	greatestPrime = 999999937
	rich          = 735134400
)

func notTerms() []int64 { return []int64{0, -1, -2, -most, least, most + 1, most + 2, greatest} }

// manyTerms are numbers at the limits, primes, squares of primes, prime powers, numbers with many divisors, and random ones.
func manyTerms() []int64 {
	list := []int64{
		1, 2, 3, 4, most, most - 1, most - 2, most / 2, greatestPrime, greatestPrime - 1, greatestPrime + 1, 999999929, 2 * 499999993,
		31607 * 31607, 31601 * 31607, 31607 * 31627, 31607, 31627, 31622, 31623, 31622 * 31622, 31622 * 31623, 997 * 997 * 997,
		1 << 29, 1 << 28, 387420489, 244140625, 282475249, 177 * 177 * 177 * 177, rich, 698377680, 223092870, 60466176, 55440, 83160, 360,
	}
	source := rand.New(rand.NewSource(6))
	for range 200 {
		list = append(list, 1+source.Int63n(most)>>source.Intn(30))
	}
	return list
}

func isPrimeByBig(n int64) bool { return n > 1 && big.NewInt(n).ProbablyPrime(10) }

func productOf(list []int64) *big.Int {
	product := big.NewInt(1)
	for _, n := range list {
		product.Mul(product, big.NewInt(n))
	}
	return product
}

func TestPromise4CommonDivisorsAndMultiples(t *testing.T) {
	cases := []struct{ a, b, gcd, lcm int64 }{
		{84, 60, 12, 420}, {1, 1, 1, 1}, {1, 7, 1, 7}, {7, 7, 7, 7}, {6, 35, 1, 210}, {12, 4, 4, 12},
		{1, most, 1, most}, {most, most, most, most}, {most, most / 2, most / 2, most}, {most - 1, most - 1, most - 1, most - 1},
		{most, 3, 1, 3 * most}, {most, 2, 2, most}, {most / 2, 4, 4, most / 2}, {most / 2, 3, 1, 1500000000},
		{most, most - 1, 1, most * (most - 1)}, {most, most - 2, 2, most / 2 * (most - 2)}, {greatestPrime, most, 1, greatestPrime * most},
		{31622, 31623, 1, 31622 * 31623}, {31623, 31624, 1, 31623 * 31624}, {1 << 29, 387420489, 1, (1 << 29) * 387420489},
	}
	for _, c := range cases {
		for _, pair := range [][2]int64{{c.a, c.b}, {c.b, c.a}} {
			if got, code := impl.GcdOf(pair[0], pair[1]); got != c.gcd || code != impl.OK {
				t.Errorf("GcdOf(%d, %d): got %d %d, want %d", pair[0], pair[1], got, code, c.gcd)
			}
			if got, code := impl.LcmOf(pair[0], pair[1]); got != c.lcm || code != impl.OK {
				t.Errorf("LcmOf(%d, %d): got %d %d, want %d", pair[0], pair[1], got, code, c.lcm)
			}
		}
	}
	list := manyTerms()
	for _, a := range list {
		for _, b := range list {
			gcd := new(big.Int).GCD(nil, nil, big.NewInt(a), big.NewInt(b))
			if got, code := impl.GcdOf(a, b); got != gcd.Int64() || code != impl.OK {
				t.Errorf("GcdOf(%d, %d): got %d %d, want %v", a, b, got, code, gcd)
			}
			lcm := new(big.Int).Div(productOf([]int64{a, b}), gcd)
			if got, code := impl.LcmOf(a, b); got != lcm.Int64() || code != impl.OK {
				t.Errorf("LcmOf(%d, %d): got %d %d, want %v", a, b, got, code, lcm)
			}
		}
	}
}

func TestPromise4CommonDivisorsOutOfRange(t *testing.T) {
	for _, bad := range notTerms() {
		for _, other := range append(notTerms(), 1, 2, most) {
			for _, pair := range [][2]int64{{bad, other}, {other, bad}} {
				if got, code := impl.GcdOf(pair[0], pair[1]); got != 0 || code != impl.ErrRange {
					t.Errorf("GcdOf(%d, %d): got %d %d, want ErrRange", pair[0], pair[1], got, code)
				}
				if got, code := impl.LcmOf(pair[0], pair[1]); got != 0 || code != impl.ErrRange {
					t.Errorf("LcmOf(%d, %d): got %d %d, want ErrRange", pair[0], pair[1], got, code)
				}
			}
		}
	}
}

func TestPromise4PrimesOf(t *testing.T) {
	cases := []struct {
		n    int64
		want []int64
	}{
		{1, nil}, {2, []int64{2}}, {3, []int64{3}}, {4, []int64{2, 2}}, {6, []int64{2, 3}}, {9, []int64{3, 3}},
		{360, []int64{2, 2, 2, 3, 3, 5}}, {97, []int64{97}}, {1001, []int64{7, 11, 13}},
		{most, append(slices.Repeat([]int64{2}, 9), slices.Repeat([]int64{5}, 9)...)}, {most - 1, []int64{3, 3, 3, 3, 37, 333667}},
		{greatestPrime, []int64{greatestPrime}}, {31607 * 31607, []int64{31607, 31607}}, {31607 * 31627, []int64{31607, 31627}},
		{1 << 29, slices.Repeat([]int64{2}, 29)}, {387420489, slices.Repeat([]int64{3}, 18)}, {244140625, slices.Repeat([]int64{5}, 12)},
		{2 * 499999993, []int64{2, 499999993}}, {223092870, []int64{2, 3, 5, 7, 11, 13, 17, 19, 23}},
	}
	for _, c := range cases {
		if got, code := impl.PrimesOf(c.n); !slices.Equal(got, c.want) || code != impl.OK {
			t.Errorf("PrimesOf(%d): got %v %d, want %v", c.n, got, code, c.want)
		}
	}
	for _, n := range notTerms() {
		if got, code := impl.PrimesOf(n); len(got) != 0 || code != impl.ErrRange {
			t.Errorf("PrimesOf(%d): got %v %d, want ErrRange", n, got, code)
		}
	}
}

func TestPromise4NumbersAreTheProductsOfTheirPrimes(t *testing.T) {
	list := manyTerms()
	for n := int64(1); n <= 3000; n++ {
		list = append(list, n)
	}
	for n := int64(most - 300); n <= most; n++ {
		list = append(list, n)
	}
	for _, n := range list {
		primes, code := impl.PrimesOf(n)
		if code != impl.OK || productOf(primes).Cmp(big.NewInt(n)) != 0 || !slices.IsSorted(primes) {
			t.Errorf("PrimesOf(%d): got %v %d", n, primes, code)
		}
		for _, p := range primes {
			if !isPrimeByBig(p) {
				t.Errorf("PrimesOf(%d): got %v, and %d is not a prime", n, primes, p)
			}
		}
	}
}

func TestPromise4IsPrime(t *testing.T) {
	for _, n := range []int64{2, 3, 5, 97, 31607, 31627, 499999993, 999999929, greatestPrime} {
		if !impl.IsPrime(n) {
			t.Errorf("IsPrime(%d): got false, want true", n)
		}
	}
	// 1000000007 and 1000000009 are primes, but beyond MaxTerm.
	for _, n := range append(notTerms(), 1, 4, 9, 561, 1000000007, 1000000009, -2, -3, -7, 31607*31607, 31607*31627, most, most-1) {
		if impl.IsPrime(n) {
			t.Errorf("IsPrime(%d): got true, want false", n)
		}
	}
	tryFrom := func(first, last int64) {
		for n := first; n <= last; n++ {
			want := n <= most && isPrimeByBig(n)
			if got := impl.IsPrime(n); got != want {
				t.Errorf("IsPrime(%d): got %t, want %t", n, got, want)
			}
		}
	}
	tryFrom(-20, 5000)
	tryFrom(31500, 31700)
	tryFrom(31607*31607-50, 31607*31607+50)
	tryFrom(most-400, most+100)
}

func TestPromise4DivisorsOfSmallNumbers(t *testing.T) {
	for n := int64(1); n <= 1500; n++ {
		var want []int64
		for d := int64(1); d <= n; d++ {
			if n%d == 0 {
				want = append(want, d)
			}
		}
		if got, code := impl.DivisorsOf(n); !slices.Equal(got, want) || code != impl.OK {
			t.Errorf("DivisorsOf(%d): got %v %d, want %v", n, got, code, want)
		}
	}
}

// divisorsByTrying returns the divisors of n from each one up to the root of n and the one that it leaves.
func divisorsByTrying(n int64) []int64 {
	var lesser, greater []int64
	for d := int64(1); d*d <= n; d++ {
		if n%d != 0 {
			continue
		}
		lesser = append(lesser, d)
		if d*d != n {
			greater = append(greater, n/d)
		}
	}
	slices.Reverse(greater)
	return append(lesser, greater...)
}

func TestPromise4DivisorsOf(t *testing.T) {
	for _, n := range manyTerms() {
		want := divisorsByTrying(n)
		if got, code := impl.DivisorsOf(n); !slices.Equal(got, want) || code != impl.OK {
			t.Errorf("DivisorsOf(%d): got %v %d, want %v", n, got, code, want)
		}
	}
	for n, want := range map[int64]int{1: 1, rich: 1344, most: 100, 1 << 29: 30, 60466176: 121, greatestPrime: 2, 31607 * 31607: 3} {
		if got, code := impl.DivisorsOf(n); len(got) != want || code != impl.OK {
			t.Errorf("DivisorsOf(%d): got %d divisors and %d, want %d", n, len(got), code, want)
		}
	}
	for _, n := range notTerms() {
		if got, code := impl.DivisorsOf(n); len(got) != 0 || code != impl.ErrRange {
			t.Errorf("DivisorsOf(%d): got %v %d, want ErrRange", n, got, code)
		}
	}
}

func TestPromise4DivisorsWithin(t *testing.T) {
	cases := []struct {
		n, low, high int64
		want         []int64
	}{
		{360, 8, 12, []int64{8, 9, 10, 12}}, {360, 7, 13, []int64{8, 9, 10, 12}}, {360, 9, 9, []int64{9}}, {360, 7, 7, nil},
		{360, 180, most, []int64{180, 360}}, {360, 360, greatest, []int64{360}}, {360, 361, greatest, nil}, {360, least, 2, []int64{1, 2}},
		{12, least, greatest, []int64{1, 2, 3, 4, 6, 12}}, {12, 0, 3, []int64{1, 2, 3}}, {12, -5, 1, []int64{1}}, {12, 1, 1, []int64{1}},
		{12, -5, 0, nil}, {12, least, least, nil}, {12, 6, 4, nil}, {12, 4, 3, nil}, {12, greatest, least, nil}, {12, 13, 1, nil},
		{1, 1, 1, []int64{1}}, {1, 2, most, nil}, {1, 0, 0, nil}, {1, 1, 0, nil},
		{most, most, most, []int64{most}}, {most, most / 2, most, []int64{most / 2, most}}, {most, most + 1, greatest, nil}, {most, most, most + 1, []int64{most}},
		{greatestPrime, 2, greatestPrime, []int64{greatestPrime}}, {greatestPrime, 2, greatestPrime - 1, nil}, {greatestPrime, 1, greatestPrime - 1, []int64{1}},
	}
	for _, c := range cases {
		if got, code := impl.DivisorsWithin(c.n, c.low, c.high); !slices.Equal(got, c.want) || code != impl.OK {
			t.Errorf("DivisorsWithin(%d, %d, %d): got %v %d, want %v", c.n, c.low, c.high, got, code, c.want)
		}
	}
	for _, n := range notTerms() {
		for _, bounds := range [][2]int64{{1, most}, {2, 1}, {0, 0}, {least, greatest}} {
			if got, code := impl.DivisorsWithin(n, bounds[0], bounds[1]); len(got) != 0 || code != impl.ErrRange {
				t.Errorf("DivisorsWithin(%d, %d, %d): got %v %d, want ErrRange", n, bounds[0], bounds[1], got, code)
			}
		}
	}
}

func TestPromise4DivisorsInEachRange(t *testing.T) {
	for _, n := range []int64{1, 2, 7, 12, 36, 60, 360} {
		all := divisorsByTrying(n)
		for low := int64(-2); low <= n+2; low++ {
			for high := int64(-2); high <= n+2; high++ {
				var want []int64
				for _, d := range all {
					if low <= d && d <= high {
						want = append(want, d)
					}
				}
				if got, code := impl.DivisorsWithin(n, low, high); !slices.Equal(got, want) || code != impl.OK {
					t.Errorf("DivisorsWithin(%d, %d, %d): got %v %d, want %v", n, low, high, got, code, want)
				}
			}
		}
	}
}

// tryAllSplits returns the splits of all numbers, in lexicographic order, from all lists of count numbers from low to high.
func tryAllSplits(low, high, count int64) map[int64][][]int64 {
	if count == 0 {
		return map[int64][][]int64{1: {nil}}
	}
	splits := map[int64][][]int64{}
	for first := low; first <= high; first++ {
		for product, list := range tryAllSplits(first, high, count-1) {
			for _, rest := range list {
				splits[first*product] = append(splits[first*product], append([]int64{first}, rest...))
			}
		}
	}
	return splits
}

func sameSplits(a, b [][]int64) bool { return slices.EqualFunc(a, b, slices.Equal[[]int64]) }

func smallRanges() [][2]int64 {
	return [][2]int64{{1, 1}, {1, 2}, {1, 7}, {1, 15}, {2, 2}, {2, 3}, {2, 12}, {3, 5}, {5, 17}, {6, 10}, {7, 7}, {8, 12}, {11, 13}, {12, 24}}
}

func TestPromise4SplitsInSmallRanges(t *testing.T) {
	for _, bounds := range smallRanges() {
		for count := int64(1); count <= impl.MaxParts; count++ {
			splits := tryAllSplits(bounds[0], bounds[1], count)
			numbers := []int64{rich, most, greatestPrime}
			for n := range splits {
				numbers = append(numbers, n)
			}
			for n := int64(1); n <= 1500; n++ {
				numbers = append(numbers, n)
			}
			for _, n := range numbers {
				want := splits[n]
				if got, code := impl.SplitsOf(n, bounds[0], bounds[1], count); !sameSplits(got, want) || code != impl.OK {
					t.Errorf("SplitsOf(%d, %v, %d): got %v %d, want %v", n, bounds, count, got, code, want)
				}
			}
		}
	}
}

type splitsCase struct {
	n, low, high, count int64
	want                [][]int64
}

func TestPromise4SplitsOf(t *testing.T) {
	cases := []splitsCase{
		{360, 6, 10, 3, [][]int64{{6, 6, 10}}}, {12, 1, most, 2, [][]int64{{1, 12}, {2, 6}, {3, 4}}}, {12, 2, 6, 2, [][]int64{{2, 6}, {3, 4}}},
		{12, 3, 6, 2, [][]int64{{3, 4}}}, {12, 2, 5, 2, [][]int64{{3, 4}}}, {12, 4, 6, 2, nil}, {12, 5, 5, 2, nil},
		{16, 1, 16, 3, [][]int64{{1, 1, 16}, {1, 2, 8}, {1, 4, 4}, {2, 2, 4}}}, {16, 2, 16, 3, [][]int64{{2, 2, 4}}}, {16, 2, 2, 4, [][]int64{{2, 2, 2, 2}}},
		{24, 1, 24, 4, [][]int64{{1, 1, 1, 24}, {1, 1, 2, 12}, {1, 1, 3, 8}, {1, 1, 4, 6}, {1, 2, 2, 6}, {1, 2, 3, 4}, {2, 2, 2, 3}}},
		{1, 1, 1, 1, [][]int64{{1}}}, {1, 1, 1, 4, [][]int64{{1, 1, 1, 1}}}, {1, 1, most, 3, [][]int64{{1, 1, 1}}}, {1, 2, most, 1, nil}, {1, 2, 5, 4, nil},
		{7, 1, 7, 1, [][]int64{{7}}}, {7, 1, 6, 1, nil}, {7, 8, most, 1, nil}, {7, 7, 7, 1, [][]int64{{7}}}, {7, 7, 7, 2, nil}, {7, 1, 7, 4, [][]int64{{1, 1, 1, 7}}},
		{7, 2, most, 2, nil}, {97, 2, 96, 4, nil}, {97, 1, 96, 2, nil}, {49, 2, 48, 2, [][]int64{{7, 7}}}, {49, 7, 7, 2, [][]int64{{7, 7}}}, {50, 7, 7, 2, nil},
		{most, most, most, 1, [][]int64{{most}}}, {most, 1, most, 1, [][]int64{{most}}}, {most, 1, most - 1, 1, nil}, {most, most - 1, most, 2, nil},
		{most, 1000, 1000, 3, [][]int64{{1000, 1000, 1000}}}, {most, 999, 1001, 3, [][]int64{{1000, 1000, 1000}}}, {most, 31623, most, 2, nil},
		{most, 31250, 32000, 2, [][]int64{{31250, 32000}}}, {most, 31250, 31999, 2, nil}, {most, 31251, 32000, 2, nil}, {most, most / 4, most / 2, 2, nil},
		{most, 125, 250, 4, [][]int64{{125, 128, 250, 250}, {125, 160, 200, 250}, {125, 200, 200, 200}}}, {most, 126, 250, 4, nil},
		{most - 1, 37, 81 * 333667, 2, [][]int64{{37, 27027027}, {81, 12345679}, {111, 9009009}, {333, 3003003}, {999, 1001001}, {2997, 333667}}}, {most - 1, most - 1, most, 1, [][]int64{{most - 1}}},
		{greatestPrime, 1, most, 4, [][]int64{{1, 1, 1, greatestPrime}}}, {greatestPrime, 2, most, 2, nil}, {greatestPrime, 1, greatestPrime - 1, 4, nil},
		{31607 * 31607, 2, most, 2, [][]int64{{31607, 31607}}}, {31607 * 31607, 31607, 31607, 2, [][]int64{{31607, 31607}}}, {31607 * 31607, 2, most, 3, nil},
		{177 * 177 * 177 * 177, 177, 177, 4, [][]int64{{177, 177, 177, 177}}}, {rich, most, most, 4, nil}, {2, most, most, 4, nil}, {rich, 1, 1, 4, nil},
	}
	for _, c := range cases {
		if got, code := impl.SplitsOf(c.n, c.low, c.high, c.count); !sameSplits(got, c.want) || code != impl.OK {
			t.Errorf("SplitsOf(%d, %d, %d, %d): got %v %d, want %v", c.n, c.low, c.high, c.count, got, code, c.want)
		}
	}
}

// countSplits counts the splits of n by its divisors alone, without any other limit to the search.
func countSplits(n, low, high, count int64) int {
	if count == 1 {
		if low <= n && n <= high {
			return 1
		}
		return 0
	}
	sum := 0
	for _, d := range divisorsByTrying(n) {
		if low <= d && d <= high {
			sum += countSplits(n/d, d, high, count-1)
		}
	}
	return sum
}

// checkFull checks whether SplitsOf finds as many splits as there are, or ErrFull if there are too many.
func checkFull(t *testing.T, n, low, high, count int64) int {
	t.Helper()
	want, code := countSplits(n, low, high, count), int64(impl.OK)
	found := want
	if want > impl.MaxSplits {
		want, code = 0, impl.ErrFull
	}
	got, gotCode := impl.SplitsOf(n, low, high, count)
	if len(got) != want || gotCode != code {
		t.Errorf("SplitsOf(%d, %d, %d, %d): got %d splits and %d, want %d and %d", n, low, high, count, len(got), gotCode, want, code)
	}
	for i, split := range got {
		ascend := i == 0 || slices.Compare(got[i-1], split) < 0
		if !ascend || int64(len(split)) != count || !slices.IsSorted(split) || split[0] < low || split[count-1] > high || productOf(split).Cmp(big.NewInt(n)) != 0 {
			t.Errorf("SplitsOf(%d, %d, %d, %d): got %v at %d", n, low, high, count, split, i)
		}
	}
	return found
}

func TestPromise4SplitsAsManyAsAllowed(t *testing.T) {
	if impl.MaxParts != 4 || impl.MaxSplits != 60 || impl.MaxFar != 200 {
		t.Errorf("MaxParts, MaxSplits, MaxFar: got %d %d %d", impl.MaxParts, impl.MaxSplits, impl.MaxFar)
	}
	cases := []struct {
		n, low, high, count int64
		splits              int
	}{
		{55440, 1, most, 2, 60}, {60466176, 2, most, 2, 60}, {60466176, 1, 30233088, 2, 60}, {60466176, 1, most, 2, 61}, {60466176, 1, 60466176, 2, 61}, {83160, 1, most, 2, 64},
		{5880, 1, 200, 3, 60}, {3024, 1, 200, 3, 61}, {2880, 2, 200, 3, 60}, {2520, 2, 200, 3, 61}, {10080, 6, 120, 3, 60}, {64800, 6, 120, 3, 61},
		{1584, 1, 120, 4, 60}, {1620, 1, 120, 4, 61}, {3780, 2, 120, 4, 60}, {3024, 2, 120, 4, 61}, {47040, 6, 120, 4, 60}, {37800, 6, 120, 4, 61},
	}
	for _, c := range cases {
		if got := checkFull(t, c.n, c.low, c.high, c.count); got != c.splits {
			t.Errorf("splits of %d, %d, %d, %d: there are %d, want %d", c.n, c.low, c.high, c.count, got, c.splits)
		}
	}
	for count := int64(2); count <= 4; count++ {
		if got, code := impl.SplitsOf(rich, 1, most, count); len(got) != 0 || code != impl.ErrFull {
			t.Errorf("SplitsOf(rich, 1, most, %d): got %v %d, want ErrFull", count, got, code)
		}
	}
}

func TestPromise4SplitsOfRandomNumbers(t *testing.T) {
	source := rand.New(rand.NewSource(7))
	smooth := []int64{2, 2, 2, 2, 3, 3, 3, 5, 5, 7, 7, 11, 13, 17}
	full, some := 0, 0
	for range 1500 {
		n, limit := int64(1), 1+source.Int63n(100000)
		for n <= limit {
			n *= smooth[source.Intn(len(smooth))]
		}
		low := 1 + source.Int63n(30)
		high := low + source.Int63n(n)>>source.Intn(12)
		switch found := checkFull(t, n, low, high, 1+source.Int63n(4)); {
		case found > impl.MaxSplits:
			full++
		case found > 1:
			some++
		}
	}
	if full < 20 || some < 100 {
		t.Errorf("numbers that were tried: %d with too many splits, %d with some", full, some)
	}
}

type badSplit struct{ n, low, high, count int64 }

// badSplits are arguments out of range, each one alone and together with others.
func badSplits() []badSplit {
	list := []badSplit{
		{360, 10, 6, 3}, {360, 7, 6, 1}, {360, most, 1, 2}, {360, most, most - 1, 2}, {360, greatest, least, 2}, {360, 2, 0, 2}, {360, 1, -1, 2},
		{360, 0, 10, 3}, {360, -1, 10, 3}, {360, least, 10, 3}, {360, 0, 0, 3}, {360, -3, -2, 3}, {360, least, greatest, 1}, {360, -1, most, 1},
		{360, 1, most + 1, 3}, {360, 1, greatest, 1}, {360, most, most + 1, 1}, {360, most + 1, most + 1, 1}, {360, most + 1, greatest, 1}, {360, greatest, greatest, 4},
		{360, 6, 10, 0}, {360, 6, 10, -1}, {360, 6, 10, 5}, {360, 1, most, 5}, {360, 1, 1, least}, {360, 1, 360, greatest}, {360, 1, 360, -4},
		{1, 1, 1, 0}, {1, 1, 1, 5}, {360, 0, 0, 0}, {rich, 1, most, 5}, {rich, 0, most, 4}, {rich, 1, most + 1, 4}, {most, 2, 1, 4}, {most, 6, 10, 5}, {100000, 6, 10, 0}, {100000, 0, 10, 3},
	}
	for _, n := range notTerms() {
		list = append(list, badSplit{n, 6, 10, 3}, badSplit{n, 1, most, 1}, badSplit{n, 1, 1, 4}, badSplit{n, 10, 6, 3}, badSplit{n, 0, most + 1, 0}, badSplit{n, 1, most, 5}, badSplit{n, most, most, 1}, badSplit{n, -most, most, 1})
	}
	return list
}

func TestPromise4SplitsOutOfRange(t *testing.T) {
	for _, c := range badSplits() {
		if got, code := impl.SplitsOf(c.n, c.low, c.high, c.count); len(got) != 0 || code != impl.ErrRange {
			t.Errorf("SplitsOf(%v): got %v %d, want ErrRange", c, got, code)
		}
		if got, code := impl.NearestSplit(c.n, c.low, c.high, c.count); got != 0 || code != impl.ErrRange {
			t.Errorf("NearestSplit(%v): got %d %d, want ErrRange", c, got, code)
		}
	}
}

// nearestOf returns what NearestSplit should return for n if exactly these numbers have a split.
func nearestOf(numbers []int64, n int64) (int64, int64) {
	best, bestFar := int64(0), int64(impl.MaxFar+1)
	for _, x := range numbers {
		far := max(x-n, n-x)
		if x <= most && (far < bestFar || far == bestFar && x < best) {
			best, bestFar = x, far
		}
	}
	if best == 0 {
		return 0, impl.ErrNotFound
	}
	return best, impl.OK
}

func TestPromise4NearestSplitsInSmallRanges(t *testing.T) {
	for _, bounds := range smallRanges() {
		for count := int64(1); count <= impl.MaxParts; count++ {
			var numbers []int64
			for n := range tryAllSplits(bounds[0], bounds[1], count) {
				numbers = append(numbers, n)
			}
			last := slices.Max(numbers)
			for n := int64(1); n <= last+impl.MaxFar+2; n += 1 + last/600 {
				want, wantCode := nearestOf(numbers, n)
				if got, code := impl.NearestSplit(n, bounds[0], bounds[1], count); got != want || code != wantCode {
					t.Errorf("NearestSplit(%d, %v, %d): got %d %d, want %d %d", n, bounds, count, got, code, want, wantCode)
				}
			}
		}
	}
}

func TestPromise4NearestSplit(t *testing.T) {
	cases := []struct{ n, low, high, count, want, code int64 }{
		{360, 6, 10, 3, 360, impl.OK}, {361, 6, 10, 3, 360, impl.OK}, {100000, 6, 10, 3, 0, impl.ErrNotFound}, {1, 6, 10, 3, 0, impl.ErrNotFound},
		{8, 2, 5, 1, 5, impl.OK}, {8, 6, 6, 1, 6, impl.OK}, {12, 3, 5, 2, 12, impl.OK}, {104, 7, 7, 1, 7, impl.OK}, {110, 10, 12, 2, 110, impl.OK},
		// Two that are equally far, and next to it: 4 and 6, 16 and 20, 100 and 110, 40000 and 40200.
		{5, 2, 3, 2, 4, impl.OK}, {18, 4, 5, 2, 16, impl.OK}, {17, 4, 5, 2, 16, impl.OK}, {19, 4, 5, 2, 20, impl.OK},
		{104, 10, 11, 2, 100, impl.OK}, {105, 10, 11, 2, 100, impl.OK}, {106, 10, 11, 2, 110, impl.OK},
		{40100, 200, 201, 2, 40000, impl.OK}, {40101, 200, 201, 2, 40200, impl.OK}, {40200, 200, 201, 2, 40200, impl.OK},
		// Exactly MaxFar away, below and above, and one further.
		{300, 500, 500, 1, 500, impl.OK}, {299, 500, 500, 1, 0, impl.ErrNotFound}, {700, 500, 500, 1, 500, impl.OK}, {701, 500, 500, 1, 0, impl.ErrNotFound},
		{24, 6, 10, 3, 216, impl.OK}, {16, 6, 10, 3, 216, impl.OK}, {15, 6, 10, 3, 0, impl.ErrNotFound}, {1200, 6, 10, 3, 1000, impl.OK}, {1201, 6, 10, 3, 0, impl.ErrNotFound},
		{9800, 100, 100, 2, 10000, impl.OK}, {9799, 100, 100, 2, 0, impl.ErrNotFound}, {10200, 100, 100, 2, 10000, impl.OK}, {10201, 100, 100, 2, 0, impl.ErrNotFound},
		// Next to 1.
		{1, 1, 1, 1, 1, impl.OK}, {1, 1, most, 4, 1, impl.OK}, {2, 1, 1, 4, 1, impl.OK}, {201, 1, 1, 3, 1, impl.OK}, {202, 1, 1, 3, 0, impl.ErrNotFound},
		{1, 2, most, 1, 2, impl.OK}, {1, 2, most, 4, 16, impl.OK}, {1, 3, 3, 2, 9, impl.OK}, {1, 201, 201, 1, 201, impl.OK}, {1, 202, most, 1, 0, impl.ErrNotFound}, {2, 202, most, 1, 202, impl.OK}, {1, 15, 20, 2, 0, impl.ErrNotFound}, {1, 14, 20, 2, 196, impl.OK},
		// Next to MaxTerm.
		{most, 1, most, 1, most, impl.OK}, {most, most, most, 1, most, impl.OK}, {most - 200, most, most, 1, most, impl.OK}, {most - 201, most, most, 1, 0, impl.ErrNotFound},
		{most, 1, most - 1, 1, most - 1, impl.OK}, {most, 1, most - 200, 1, most - 200, impl.OK}, {most, 1, most - 201, 1, 0, impl.ErrNotFound}, {most - 1, 1000, 1000, 3, most, impl.OK},
		{most, 31504, 31742, 2, most - 32, impl.OK}, {most, 31505, 31742, 2, 0, impl.ErrNotFound}, {most, 31505, 31741, 2, 0, impl.ErrNotFound}, {most - 200, 31505, 31741, 2, 0, impl.ErrNotFound},
		{most, most, most, 2, 0, impl.ErrNotFound}, {most, most, most, 4, 0, impl.ErrNotFound}, {most, 31623, 31623, 2, 0, impl.ErrNotFound}, {most, 31623, most, 2, 0, impl.ErrNotFound}, {most, 178, 178, 4, 0, impl.ErrNotFound},
		{greatestPrime, 1, most, 2, greatestPrime, impl.OK}, {greatestPrime, 2, most, 2, greatestPrime - 1, impl.OK}, {most, greatestPrime, greatestPrime, 1, greatestPrime, impl.OK},
		{rich, 1, most, 4, rich, impl.OK}, {rich, 1, 1, 4, 0, impl.ErrNotFound}, {rich, 2, most, 1, rich, impl.OK},
	}
	for _, c := range cases {
		if got, code := impl.NearestSplit(c.n, c.low, c.high, c.count); got != c.want || code != c.code {
			t.Errorf("NearestSplit(%d, %d, %d, %d): got %d %d, want %d %d", c.n, c.low, c.high, c.count, got, code, c.want, c.code)
		}
	}
}

// Of the products of four numbers from 126 to 218, the one nearest to MaxTerm is MaxTerm + 8, which is no result.
func TestPromise4NearestSplitIsAtMostMaxTerm(t *testing.T) {
	var numbers []int64
	for a := int64(126); a <= 218; a++ {
		for b := a; b <= 218; b++ {
			for c := b; c <= 218; c++ {
				for d := c; d <= 218; d++ {
					if n := a * b * c * d; n > most-1000 && n < most+1000 {
						numbers = append(numbers, n)
					}
				}
			}
		}
	}
	if !slices.Contains(numbers, most+8) {
		t.Error("no product is just beyond MaxTerm")
	}
	for n := int64(most - 40); n <= most; n++ {
		want, wantCode := nearestOf(numbers, n)
		if got, code := impl.NearestSplit(n, 126, 218, 4); got != want || code != wantCode {
			t.Errorf("NearestSplit(%d, 126, 218, 4): got %d %d, want %d %d", n, got, code, want, wantCode)
		}
	}
}

func TestPromise4NearestSplitHasASplit(t *testing.T) {
	source := rand.New(rand.NewSource(8))
	found := 0
	for range 300 {
		count := 1 + source.Int63n(4)
		low := 1 + source.Int63n(20)
		high := low + source.Int63n(60)
		n := 1 + source.Int63n(20000)
		near, code := impl.NearestSplit(n, low, high, count)
		far := int64(impl.MaxFar + 1)
		if code == impl.OK {
			found++
			far = max(near-n, n-near)
			if countSplits(near, low, high, count) == 0 || far > impl.MaxFar {
				t.Errorf("NearestSplit(%d, %d, %d, %d): got %d, which has no split or is too far", n, low, high, count, near)
			}
		}
		for x := max(1, n-far); x < n+far; x++ {
			if (x != n-far || x < near) && x != near && countSplits(x, low, high, count) > 0 {
				t.Errorf("NearestSplit(%d, %d, %d, %d): got %d %d, but %d has a split", n, low, high, count, near, code, x)
			}
		}
	}
	if found < 50 || found > 290 {
		t.Errorf("nearest numbers were found %d times", found)
	}
}

func TestPromise4PowersText(t *testing.T) {
	for n, want := range map[int64]string{
		1: "1", 2: "2", 3: "3", 4: "2^2", 6: "2 3", 12: "2^2 3", 18: "2 3^2", 30: "2 3 5", 97: "97", 360: "2^3 3^2 5", 1024: "2^10", 1 << 29: "2^29", 387420489: "3^18",
		most: "2^9 5^9", most - 1: "3^4 37 333667", greatestPrime: "999999937", 31607 * 31607: "31607^2", rich: "2^6 3^3 5^2 7 11 13 17", 60466176: "2^10 3^10",
	} {
		if got := impl.PowersText(n); got != want {
			t.Errorf("PowersText(%d): got %q, want %q", n, got, want)
		}
	}
	for _, n := range notTerms() {
		if got := impl.PowersText(n); got != "" {
			t.Errorf("PowersText(%d): got %q, want the empty string", n, got)
		}
	}
}

// powersOfText returns the text of a list of primes in ascending order.
func powersOfText(primes []int64) string {
	var words []string
	for i := 0; i < len(primes); {
		times := 0
		for p := primes[i]; i < len(primes) && primes[i] == p; i++ {
			times++
		}
		word := strconv.FormatInt(primes[i-1], 10)
		if times > 1 {
			word += "^" + strconv.Itoa(times)
		}
		words = append(words, word)
	}
	return strings.Join(words, " ")
}

func TestPromise4PowersTextIsThatOfThePrimes(t *testing.T) {
	for _, n := range manyTerms() {
		primes, _ := impl.PrimesOf(n)
		want := powersOfText(primes)
		if n == 1 {
			want = "1"
		}
		if got := impl.PowersText(n); got != want {
			t.Errorf("PowersText(%d): got %q, want %q", n, got, want)
		}
	}
}

func TestPromise1IntegersAreNewAndEqual(t *testing.T) {
	calls := map[string]func(n int64) ([]int64, int64){
		"PrimesOf": impl.PrimesOf, "DivisorsOf": impl.DivisorsOf,
		"DivisorsWithin": func(n int64) ([]int64, int64) { return impl.DivisorsWithin(n, 2, 5000) },
	}
	for name, call := range calls {
		for _, n := range manyTerms() {
			first, _ := call(n)
			kept := slices.Clone(first)
			clear(first[:cap(first)])
			if again, code := call(n); !slices.Equal(again, kept) || code != impl.OK {
				t.Errorf("%s(%d) after a change of its result: got %v %d, want %v", name, n, again, code, kept)
			}
		}
	}
}

func TestPromise1SplitsShareNoMemory(t *testing.T) {
	for _, c := range []badSplit{{16, 1, 16, 3}, {360, 1, 360, 4}, {55440, 1, most, 2}, {5880, 1, 200, 3}, {47040, 6, 120, 4}, {7, 1, 7, 1}, {360, 2, 360, 3}} {
		got, _ := impl.SplitsOf(c.n, c.low, c.high, c.count)
		again, _ := impl.SplitsOf(c.n, c.low, c.high, c.count)
		if len(got) == 0 || !sameSplits(got, again) {
			t.Errorf("SplitsOf(%v): got %v, then %v", c, got, again)
		}
		// A change of one split, or of its spare capacity, must not reach the others.
		for i := range got {
			clear(got[i][:cap(got[i])])
			if !sameSplits(got[i+1:], again[i+1:]) {
				t.Errorf("SplitsOf(%v): split %d shares memory with a later one", c, i)
			}
		}
		for i := range got {
			if slices.Max(got[i]) != 0 {
				t.Errorf("SplitsOf(%v): split %d shares memory with another result", c, i)
			}
		}
		if third, _ := impl.SplitsOf(c.n, c.low, c.high, c.count); !sameSplits(third, again) {
			t.Errorf("SplitsOf(%v) after a change of its result: got %v, want %v", c, third, again)
		}
	}
}

func TestPromise1IntegersFromSeveralGoroutines(t *testing.T) {
	var group sync.WaitGroup
	texts, primes := make([]string, 8), make([]bool, 8)
	for i := range texts {
		group.Go(func() {
			texts[i] = impl.PowersText(31607 * 31607)
			primes[i] = impl.IsPrime(greatestPrime)
		})
	}
	group.Wait()
	for i, text := range texts {
		if text != "31607^2" || !primes[i] {
			t.Errorf("PowersText and IsPrime in goroutine %d: got %q %t", i, text, primes[i])
		}
	}
}
