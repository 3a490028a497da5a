package tests

import (
	"math/big"
	"math/rand"
	"slices"
	"strings"
	"testing"

	"loop.example/g00921/impl"
)

// smallRatios are all valid ratios with terms of at most size.
func smallRatios(size int64) []impl.Ratio {
	var list []impl.Ratio
	for d := int64(1); d <= size; d++ {
		for n := -size; n <= size; n++ {
			if impl.ValidRatio(over(n, d)) {
				list = append(list, over(n, d))
			}
		}
	}
	return list
}

// manyRatios are ratios small enough to try all others, ratios at the limits, and ratios with as many terms as there can be.
func manyRatios() []impl.Ratio {
	list := append(smallRatios(20), validRatios()...)
	for _, r := range []impl.Ratio{over(701408733, 433494437), over(433494437, 701408733), over(most, 618033989), over(most-1, 618033988)} {
		if impl.ValidRatio(r) {
			list = append(list, r, over(-r.Num, r.Den))
		}
	}
	return list
}

func ones(count int) []int64 {
	return slices.Repeat([]int64{1}, count)
}

// valueOf returns the continued fraction of terms by math/big; all terms but the first one are positive.
func valueOf(list []int64) *big.Rat {
	x := big.NewRat(list[len(list)-1], 1)
	for i := len(list) - 2; i >= 0; i-- {
		x = new(big.Rat).Add(big.NewRat(list[i], 1), new(big.Rat).Inv(x))
	}
	return x
}

func TestPromise3TermsOf(t *testing.T) {
	cases := []struct {
		r    impl.Ratio
		want []int64
	}{
		{over(365, 24), []int64{15, 4, 1, 4}},
		{over(-365, 24), []int64{-16, 1, 3, 1, 4}},
		{over(0, 1), []int64{0}},
		{over(1, 1), []int64{1}}, {over(-1, 1), []int64{-1}},
		{over(7, 1), []int64{7}}, {over(-7, 1), []int64{-7}},
		{over(1, 2), []int64{0, 2}}, {over(-1, 2), []int64{-1, 2}},
		{over(1, 3), []int64{0, 3}}, {over(-1, 3), []int64{-1, 1, 2}},
		{over(5, 2), []int64{2, 2}}, {over(-5, 2), []int64{-3, 2}},
		{over(-7, 4), []int64{-2, 4}}, {over(-5, 4), []int64{-2, 1, 3}},
		{over(most, 1), []int64{most}}, {over(-most, 1), []int64{-most}},
		{over(most-1, 1), []int64{most - 1}}, {over(1-most, 1), []int64{1 - most}},
		{over(1, most), []int64{0, most}}, {over(-1, most), []int64{-1, 1, most - 1}},
		{over(most, most-1), []int64{1, most - 1}}, {over(-most, most-1), []int64{-2, 1, most - 2}},
		{over(most-1, most), []int64{0, 1, most - 1}}, {over(1-most, most), []int64{-1, most}},
		{over(most-1, 2), []int64{most/2 - 1, 2}}, {over(1-most, 2), []int64{-most / 2, 2}},
		{over(701408733, 433494437), append(ones(41), 2)},
	}
	for _, c := range cases {
		if got, code := impl.TermsOf(c.r); !slices.Equal(got, c.want) || code != impl.OK {
			t.Errorf("TermsOf(%v): got %v %d, want %v", c.r, got, code, c.want)
		}
	}
}

func TestPromise3RatiosAreRestoredFromTerms(t *testing.T) {
	for _, r := range manyRatios() {
		terms, code := impl.TermsOf(r)
		if code != impl.OK || len(terms) == 0 {
			t.Errorf("TermsOf(%v): got %v %d", r, terms, code)
			continue
		}
		last := len(terms) - 1
		for i, term := range terms {
			if i > 0 && (term < 1 || i == last && term == 1) {
				t.Errorf("TermsOf(%v): got %v, with the term %d at %d", r, terms, term, i)
			}
		}
		if got := valueOf(terms); got.Cmp(bigOf(r)) != 0 {
			t.Errorf("TermsOf(%v): got %v, which are the terms of %v", r, terms, got)
		}
		if got, code := impl.RatioOfTerms(terms); got != r || code != impl.OK {
			t.Errorf("RatioOfTerms(%v): got %v %d, want %v", terms, got, code, r)
		}
	}
}

func TestPromise3Convergents(t *testing.T) {
	cases := []struct {
		r    impl.Ratio
		want []impl.Ratio
	}{
		{over(365, 24), []impl.Ratio{over(15, 1), over(61, 4), over(76, 5), over(365, 24)}},
		{over(-365, 24), []impl.Ratio{over(-16, 1), over(-15, 1), over(-61, 4), over(-76, 5), over(-365, 24)}},
		{over(0, 1), []impl.Ratio{over(0, 1)}},
		{over(-7, 1), []impl.Ratio{over(-7, 1)}},
		{over(-1, 3), []impl.Ratio{over(-1, 1), over(0, 1), over(-1, 3)}},
		{over(most, 1), []impl.Ratio{over(most, 1)}},
		{over(-most, 1), []impl.Ratio{over(-most, 1)}},
		{over(-most, most-1), []impl.Ratio{over(-2, 1), over(-1, 1), over(-most, most-1)}},
		{over(-1, most), []impl.Ratio{over(-1, 1), over(0, 1), over(-1, most)}},
	}
	for _, c := range cases {
		if got, code := impl.ConvergentsOf(c.r); !slices.Equal(got, c.want) || code != impl.OK {
			t.Errorf("ConvergentsOf(%v): got %v %d, want %v", c.r, got, code, c.want)
		}
	}
	for _, r := range manyRatios() {
		terms, _ := impl.TermsOf(r)
		var want []impl.Ratio
		for i := range terms {
			x, ok := exactly(valueOf(terms[:i+1]))
			if !ok {
				t.Errorf("the convergent of %v is not valid", terms[:i+1])
			}
			want = append(want, x)
		}
		if got, code := impl.ConvergentsOf(r); !slices.Equal(got, want) || code != impl.OK {
			t.Errorf("ConvergentsOf(%v): got %v %d, want %v", r, got, code, want)
		}
	}
}

type termsCase struct {
	list []int64
	want impl.Ratio
	code int64
}

func TestPromise3RatioOfTerms(t *testing.T) {
	none := impl.Ratio{}
	cases := []termsCase{
		{[]int64{15, 4, 1, 4}, over(365, 24), impl.OK},
		{[]int64{15, 4, 1, 3, 1}, over(365, 24), impl.OK},
		{[]int64{-16, 1, 3, 1, 4}, over(-365, 24), impl.OK},
		{[]int64{0}, over(0, 1), impl.OK}, {[]int64{0, 1}, over(1, 1), impl.OK}, {[]int64{-1, 1}, over(0, 1), impl.OK},
		{[]int64{2, 1}, over(3, 1), impl.OK}, {[]int64{-3, 2}, over(-5, 2), impl.OK},

		{nil, none, impl.ErrInvalid}, {[]int64{}, none, impl.ErrInvalid},
		{[]int64{1, 0}, none, impl.ErrInvalid}, {[]int64{1, -1}, none, impl.ErrInvalid}, {[]int64{1, least}, none, impl.ErrInvalid},
		{[]int64{1, 0, 1}, none, impl.ErrInvalid}, {[]int64{1, 1, 0}, none, impl.ErrInvalid}, {[]int64{1, 1, -2, 1}, none, impl.ErrInvalid},
		{[]int64{most + 1, 0}, none, impl.ErrInvalid}, {[]int64{least, -1}, none, impl.ErrInvalid},
		{[]int64{1, most + 1, 0}, none, impl.ErrInvalid}, {[]int64{1, 0, most + 1}, none, impl.ErrInvalid},
		{[]int64{1, -most - 1}, none, impl.ErrInvalid}, {append(ones(100), 0), none, impl.ErrInvalid},

		{[]int64{most}, over(most, 1), impl.OK}, {[]int64{-most}, over(-most, 1), impl.OK},
		{[]int64{most - 1}, over(most-1, 1), impl.OK}, {[]int64{1 - most}, over(1-most, 1), impl.OK},
		{[]int64{most + 1}, none, impl.ErrRange}, {[]int64{-most - 1}, none, impl.ErrRange},
		{[]int64{greatest}, none, impl.ErrRange}, {[]int64{least}, none, impl.ErrRange},
		{[]int64{0, most}, over(1, most), impl.OK}, {[]int64{0, most + 1}, none, impl.ErrRange}, {[]int64{0, greatest}, none, impl.ErrRange},
		{[]int64{greatest, 2}, none, impl.ErrRange}, {[]int64{least, 2}, none, impl.ErrRange}, {[]int64{1, greatest, 2}, none, impl.ErrRange},
		{[]int64{1, 2, greatest}, none, impl.ErrRange}, {[]int64{-most - 1, 1}, none, impl.ErrRange},

		{[]int64{most - 1, 1}, over(most, 1), impl.OK}, {[]int64{most, 1}, none, impl.ErrRange},
		{[]int64{-most, 1}, over(1-most, 1), impl.OK}, {[]int64{-most, 2}, none, impl.ErrRange},
		{[]int64{most, most}, none, impl.ErrRange}, {[]int64{-most, most}, none, impl.ErrRange},
		{[]int64{most/2 - 1, 2}, over(most-1, 2), impl.OK}, {[]int64{most / 2, 2}, none, impl.ErrRange},
		{[]int64{-most / 2, 2}, over(1-most, 2), impl.OK}, {[]int64{-most/2 - 1, 2}, none, impl.ErrRange},
		{[]int64{1, most - 1}, over(most, most-1), impl.OK}, {[]int64{1, most}, none, impl.ErrRange},
		{[]int64{-1, most}, over(1-most, most), impl.OK}, {[]int64{-2, most}, none, impl.ErrRange},
		{[]int64{0, most - 1, 1}, over(1, most), impl.OK}, {[]int64{0, most, 1}, none, impl.ErrRange}, {[]int64{0, most, 2}, none, impl.ErrRange},
		{[]int64{0, 1, most - 1}, over(most-1, most), impl.OK}, {[]int64{0, 1, most}, none, impl.ErrRange},
		{[]int64{0, 1, 1, most}, none, impl.ErrRange}, {[]int64{-1, 2, most}, none, impl.ErrRange},
		{ones(43), over(701408733, 433494437), impl.OK}, {ones(44), none, impl.ErrRange},
		{append([]int64{0}, ones(43)...), over(433494437, 701408733), impl.OK}, {append([]int64{-1}, ones(44)...), none, impl.ErrRange},
		{ones(100000), none, impl.ErrRange},
	}
	for _, c := range cases {
		if got, code := impl.RatioOfTerms(c.list); got != c.want || code != c.code {
			shown := c.list[:min(len(c.list), 50)]
			t.Errorf("RatioOfTerms(%v): got %v %d, want %v %d", shown, got, code, c.want, c.code)
		}
	}
}

// expectTerms returns what RatioOfTerms should return, from all the ratios of the ends of list by math/big.
func expectTerms(list []int64) termsCase {
	for i, term := range list {
		if i > 0 && term < 1 {
			return termsCase{list, impl.Ratio{}, impl.ErrInvalid}
		}
	}
	var whole impl.Ratio
	for k := len(list) - 1; k >= 0; k-- {
		r, ok := exactly(valueOf(list[k:]))
		if !ok || list[k] < -most || list[k] > most {
			return termsCase{list, impl.Ratio{}, impl.ErrRange}
		}
		whole = r
	}
	return termsCase{list, whole, impl.OK}
}

func TestPromise3RatioOfRandomTerms(t *testing.T) {
	source := rand.New(rand.NewSource(4))
	seen := map[int64]int{}
	for range 4000 {
		list := make([]int64, 1+source.Intn(12))
		shift := 33 + source.Intn(29)
		for i := range list {
			list[i] = source.Int63() >> shift
			if i == 0 && source.Intn(2) == 0 || source.Intn(100) == 0 {
				list[i] = -list[i]
			}
		}
		c := expectTerms(list)
		seen[c.code]++
		if got, code := impl.RatioOfTerms(list); got != c.want || code != c.code {
			t.Errorf("RatioOfTerms(%v): got %v %d, want %v %d", list, got, code, c.want, c.code)
		}
	}
	if seen[impl.OK] < 100 || seen[impl.ErrInvalid] < 100 || seen[impl.ErrRange] < 100 {
		t.Errorf("codes that were tried: %v", seen)
	}
}

func TestPromise3Mediants(t *testing.T) {
	cases := []struct {
		a, b, want impl.Ratio
		code       int64
	}{
		{over(1, 2), over(2, 3), over(3, 5), impl.OK},
		{over(1, 3), over(1, 1), over(1, 2), impl.OK},
		{over(-1, 2), over(1, 2), over(0, 1), impl.OK},
		{over(-1, 2), over(-2, 3), over(-3, 5), impl.OK},
		{over(0, 1), over(0, 1), over(0, 1), impl.OK},
		{over(most, 1), over(most, 1), over(most, 1), impl.OK},
		{over(-most, 1), over(-most, 1), over(-most, 1), impl.OK},
		{over(most, 1), over(-most, 1), over(0, 1), impl.OK},
		{over(1, most), over(1, most), over(1, most), impl.OK},
		{over(most-2, 3), over(2, 1), over(most/4, 1), impl.OK},
		{over(most-1, 1), over(1, 2), over(most, 3), impl.OK},
		{over(most, 1), over(1, 2), impl.Ratio{}, impl.ErrRange},
		{over(-most, 1), over(-1, 2), impl.Ratio{}, impl.ErrRange},
		{over(2, most-1), over(1, 1), over(3, most), impl.OK},
		{over(1, most), over(0, 1), impl.Ratio{}, impl.ErrRange},
		{over(most, 1), over(most-1, 1), impl.Ratio{}, impl.ErrRange},
	}
	for _, c := range cases {
		for _, pair := range [][2]impl.Ratio{{c.a, c.b}, {c.b, c.a}} {
			if got, code := impl.MediantOf(pair[0], pair[1]); got != c.want || code != c.code {
				t.Errorf("MediantOf(%v, %v): got %v %d, want %v %d", pair[0], pair[1], got, code, c.want, c.code)
			}
		}
	}
	list := validRatios()
	for _, a := range list {
		for _, b := range list {
			want, code := impl.Ratio{}, int64(impl.ErrRange)
			if r, ok := exactly(big.NewRat(a.Num+b.Num, a.Den+b.Den)); ok {
				want, code = r, impl.OK
			}
			if got, gotCode := impl.MediantOf(a, b); got != want || gotCode != code {
				t.Errorf("MediantOf(%v, %v): got %v %d, want %v %d", a, b, got, gotCode, want, code)
			}
		}
	}
}

// tryAllNeighbours returns the neighbours of a small ratio by trying each denominator.
func tryAllNeighbours(r impl.Ratio, limit int64) (impl.Ratio, impl.Ratio) {
	var low, high *big.Rat
	for d := int64(1); d <= limit; d++ {
		n := floorOf(big.NewRat(r.Num*d, r.Den))
		if x := big.NewRat(n, d); low == nil || x.Cmp(low) > 0 {
			low = x
		}
		if n*r.Den != r.Num*d {
			n++
		}
		if x := big.NewRat(n, d); high == nil || x.Cmp(high) < 0 {
			high = x
		}
	}
	return over(low.Num().Int64(), low.Denom().Int64()), over(high.Num().Int64(), high.Denom().Int64())
}

func TestPromise3NeighboursOfSmallRatios(t *testing.T) {
	for _, r := range append(smallRatios(24), over(365, 24), over(-365, 24), over(1461, 4), over(-1461, 4)) {
		for limit := int64(1); limit <= 26; limit++ {
			wantLow, wantHigh := tryAllNeighbours(r, limit)
			low, high, code := impl.NeighboursOf(r, limit)
			if low != wantLow || high != wantHigh || code != impl.OK {
				t.Errorf("NeighboursOf(%v, %d): got %v %v %d, want %v %v", r, limit, low, high, code, wantLow, wantHigh)
			}
		}
	}
}

func limitsFor(r impl.Ratio) []int64 {
	list := []int64{1, 2, 3, 4, 5, 10, 999, 31622, 31623, 618033989, most/2 - 1, most / 2, most - 1, most}
	for d := int64(-2); d <= 2; d++ {
		if n := r.Den + d; n >= 1 && n <= most {
			list = append(list, n)
		}
	}
	return list
}

// fitNeighbours reports whether no ratio with a Den of at most limit is nearer to r than low or high: between two
// ratios whose determinant is 1, every ratio has at least the sum of their Den as its own.
func fitNeighbours(r impl.Ratio, limit int64, low, high impl.Ratio) bool {
	if r.Den <= limit {
		return low == r && high == r
	}
	if bigOf(low).Cmp(bigOf(r)) >= 0 || bigOf(high).Cmp(bigOf(r)) <= 0 || low.Den > limit || high.Den > limit {
		return false
	}
	return high.Num*low.Den-low.Num*high.Den == 1 && low.Den+high.Den > limit
}

// Chapter 3 names neighbours that are not valid, but there are none: those of a valid ratio have no greater terms.
// So this also checks that there is no ErrRange next to the limits of terms.
func TestPromise3NeighboursAreAsGoodAsTheirDenominatorsAllow(t *testing.T) {
	for _, r := range manyRatios() {
		for _, limit := range limitsFor(r) {
			low, high, code := impl.NeighboursOf(r, limit)
			if code != impl.OK || !impl.ValidRatio(low) || !impl.ValidRatio(high) || !fitNeighbours(r, limit, low, high) {
				t.Errorf("NeighboursOf(%v, %d): got %v %v %d", r, limit, low, high, code)
			}
		}
	}
}

func TestPromise3NeighboursAtTheLimits(t *testing.T) {
	cases := []struct {
		r         impl.Ratio
		most      int64
		low, high impl.Ratio
	}{
		{over(365, 24), 10, over(76, 5), over(137, 9)},
		{over(-365, 24), 10, over(-137, 9), over(-76, 5)},
		{over(0, 1), 1, over(0, 1), over(0, 1)},
		{over(0, 1), most, over(0, 1), over(0, 1)},
		{over(most, 1), 1, over(most, 1), over(most, 1)},
		{over(-most, 1), most, over(-most, 1), over(-most, 1)},
		{over(most-1, 2), 1, over(most/2-1, 1), over(most/2, 1)},
		{over(1-most, 2), 1, over(-most/2, 1), over(1-most/2, 1)},
		{over(1, most), most, over(1, most), over(1, most)},
		{over(1, most), most - 1, over(0, 1), over(1, most-1)},
		{over(-1, most), most - 1, over(-1, most-1), over(0, 1)},
		{over(most, most-1), most - 2, over(1, 1), over(most-1, most-2)},
		{over(-most, most-1), most - 2, over(1-most, most-2), over(-1, 1)},
		{over(-most, most-1), most - 1, over(-most, most-1), over(-most, most-1)},
		{over(most, 3), 2, over(most/3, 1), over(666666667, 2)},
		{over(-most, 3), 2, over(-666666667, 2), over(-(most / 3), 1)},
		{over(most, 3), 3, over(most, 3), over(most, 3)},
		{over(1-most, most), 1, over(-1, 1), over(0, 1)},
	}
	for _, c := range cases {
		if low, high, code := impl.NeighboursOf(c.r, c.most); low != c.low || high != c.high || code != impl.OK {
			t.Errorf("NeighboursOf(%v, %d): got %v %v %d, want %v %v", c.r, c.most, low, high, code, c.low, c.high)
		}
	}
}

// nearest returns the one of two neighbours that BestWithin should return.
func nearest(r, low, high impl.Ratio) impl.Ratio {
	below := new(big.Rat).Sub(bigOf(r), bigOf(low))
	above := new(big.Rat).Sub(bigOf(high), bigOf(r))
	switch below.Cmp(above) {
	case -1:
		return low
	case 1:
		return high
	}
	if high.Den < low.Den {
		return high
	}
	return low
}

func TestPromise3BestWithin(t *testing.T) {
	cases := []struct {
		r    impl.Ratio
		most int64
		want impl.Ratio
	}{
		{over(365, 24), 5, over(76, 5)}, {over(-365, 24), 5, over(-76, 5)},
		{over(5, 2), 2, over(5, 2)}, {over(5, 2), most, over(5, 2)},
		{over(1, 2), 1, over(0, 1)}, {over(-1, 2), 1, over(-1, 1)},
		{over(3, 2), 1, over(1, 1)}, {over(-3, 2), 1, over(-2, 1)},
		{over(most-1, 2), 1, over(most/2-1, 1)}, {over(1-most, 2), 1, over(-most/2, 1)},
		{over(1, 4), 2, over(0, 1)}, {over(-1, 4), 2, over(0, 1)},
		{over(3, 4), 2, over(1, 1)}, {over(-3, 4), 2, over(-1, 1)},
		{over(5, 12), 3, over(1, 2)}, {over(-5, 12), 3, over(-1, 2)}, {over(7, 12), 3, over(1, 2)}, {over(-7, 12), 3, over(-1, 2)},
		{over(1, 4), 3, over(1, 3)}, {over(2, 3), 1, over(1, 1)}, {over(-2, 3), 1, over(-1, 1)}, {over(-1, 3), 1, over(0, 1)},
		{over(1, most), most - 1, over(1, most-1)}, {over(1, most), most/2 + 1, over(1, most/2+1)},
		{over(1, most), most / 2, over(0, 1)}, {over(-1, most), most / 2, over(0, 1)}, {over(1, most), most, over(1, most)},
	}
	for _, c := range cases {
		if got, code := impl.BestWithin(c.r, c.most); got != c.want || code != impl.OK {
			t.Errorf("BestWithin(%v, %d): got %v %d, want %v", c.r, c.most, got, code, c.want)
		}
	}
	for _, r := range manyRatios() {
		for _, limit := range limitsFor(r) {
			low, high, _ := impl.NeighboursOf(r, limit)
			if got, code := impl.BestWithin(r, limit); got != nearest(r, low, high) || code != impl.OK {
				t.Errorf("BestWithin(%v, %d): got %v %d, want the nearest one of %v and %v", r, limit, got, code, low, high)
			}
		}
	}
}

func TestPromise3BestWithinOfSmallRatios(t *testing.T) {
	for _, r := range smallRatios(24) {
		for limit := int64(1); limit <= 26; limit++ {
			low, high := tryAllNeighbours(r, limit)
			if got, code := impl.BestWithin(r, limit); got != nearest(r, low, high) || code != impl.OK {
				t.Errorf("BestWithin(%v, %d): got %v %d, want %v", r, limit, got, code, nearest(r, low, high))
			}
		}
	}
}

func TestPromise3DenominatorsOutOfRange(t *testing.T) {
	for _, limit := range []int64{least, -most, -1, 0, most + 1, greatest} {
		for _, r := range validRatios() {
			low, high, code := impl.NeighboursOf(r, limit)
			if low != (impl.Ratio{}) || high != (impl.Ratio{}) || code != impl.ErrRange {
				t.Errorf("NeighboursOf(%v, %d): got %v %v %d, want ErrRange", r, limit, low, high, code)
			}
			if got, code := impl.BestWithin(r, limit); got != (impl.Ratio{}) || code != impl.ErrRange {
				t.Errorf("BestWithin(%v, %d): got %v %d, want ErrRange", r, limit, got, code)
			}
		}
	}
}

// tryAllBetween returns the simplest ratio from a to b by trying each denominator.
func tryAllBetween(a, b impl.Ratio) impl.Ratio {
	for d := int64(1); ; d++ {
		low := -floorOf(big.NewRat(-a.Num*d, a.Den))
		high := floorOf(big.NewRat(b.Num*d, b.Den))
		switch {
		case low > high:
		case low > 0:
			return over(low, d)
		case high < 0:
			return over(high, d)
		default:
			return over(0, d)
		}
	}
}

func TestPromise3SimplestBetweenSmallRatios(t *testing.T) {
	list := smallRatios(9)
	for _, a := range list {
		for _, b := range list {
			want, code := impl.Ratio{}, int64(impl.ErrRange)
			if bigOf(a).Cmp(bigOf(b)) <= 0 {
				want, code = tryAllBetween(a, b), impl.OK
			}
			if got, gotCode := impl.SimplestBetween(a, b); got != want || gotCode != code {
				t.Errorf("SimplestBetween(%v, %v): got %v %d, want %v %d", a, b, got, gotCode, want, code)
			}
		}
	}
}

// isSimplest reports whether x is from a to b and the next ratios with a lesser Den, or the next integer towards 0, are not.
func isSimplest(x, a, b impl.Ratio) bool {
	if !impl.ValidRatio(x) || impl.CompareRatio(a, x) > 0 || impl.CompareRatio(x, b) > 0 {
		return false
	}
	switch {
	case x.Num == 0:
		return true
	case x.Den > 1:
		low, high, code := impl.NeighboursOf(x, x.Den-1)
		return code == impl.OK && impl.CompareRatio(low, a) < 0 && impl.CompareRatio(high, b) > 0
	case x.Num > 0:
		return impl.CompareRatio(over(x.Num-1, 1), a) < 0
	}
	return impl.CompareRatio(over(x.Num+1, 1), b) > 0
}

func TestPromise3SimplestIsAsSimpleAsDenominatorsAllow(t *testing.T) {
	list := manyRatios()
	for _, a := range list {
		for _, b := range list {
			got, code := impl.SimplestBetween(a, b)
			if bigOf(a).Cmp(bigOf(b)) > 0 {
				if got != (impl.Ratio{}) || code != impl.ErrRange {
					t.Errorf("SimplestBetween(%v, %v): got %v %d, want ErrRange", a, b, got, code)
				}
			} else if code != impl.OK || !isSimplest(got, a, b) {
				t.Errorf("SimplestBetween(%v, %v): got %v %d", a, b, got, code)
			}
		}
		if got, code := impl.SimplestBetween(a, a); got != a || code != impl.OK {
			t.Errorf("SimplestBetween(%v, %v): got %v %d, want the ratio itself", a, a, got, code)
		}
	}
}

func TestPromise3SimplestAtTheLimits(t *testing.T) {
	cases := []struct{ a, b, want impl.Ratio }{
		{over(7, 5), over(17, 10), over(3, 2)}, {over(-17, 10), over(-7, 5), over(-3, 2)},
		{over(-most, 1), over(most, 1), over(0, 1)},
		{over(0, 1), over(most, 1), over(0, 1)}, {over(-most, 1), over(0, 1), over(0, 1)},
		{over(-1, most), over(1, most), over(0, 1)},
		{over(1, most), over(1, most-1), over(1, most-1)}, {over(-1, most-1), over(-1, most), over(-1, most-1)},
		{over(1, most), over(most, 1), over(1, 1)}, {over(-most, 1), over(-1, most), over(-1, 1)},
		{over(5, 2), over(most, 1), over(3, 1)}, {over(-most, 1), over(-5, 2), over(-3, 1)},
		{over(3, 1), over(7, 2), over(3, 1)}, {over(-7, 2), over(-3, 1), over(-3, 1)},
		{over(5, 2), over(3, 1), over(3, 1)}, {over(-3, 1), over(-5, 2), over(-3, 1)},
		{over(most-1, most), over(most, most-1), over(1, 1)},
		{over(most-1, 1), over(most, 1), over(most-1, 1)}, {over(-most, 1), over(1-most, 1), over(1-most, 1)},
		{over(most-2, most-1), over(most-1, most), over(most-2, most-1)},
	}
	for _, c := range cases {
		if got, code := impl.SimplestBetween(c.a, c.b); got != c.want || code != impl.OK {
			t.Errorf("SimplestBetween(%v, %v): got %v %d, want %v", c.a, c.b, got, code, c.want)
		}
	}
}

// walkPath follows the words of chapter 3, with terms of any size.
func walkPath(s string) (n, d *big.Int) {
	low, high := [2]*big.Int{big.NewInt(0), big.NewInt(1)}, [2]*big.Int{big.NewInt(1), big.NewInt(0)}
	mediant := func() [2]*big.Int {
		return [2]*big.Int{new(big.Int).Add(low[0], high[0]), new(big.Int).Add(low[1], high[1])}
	}
	for i := range len(s) {
		if s[i] == 'L' {
			high = mediant()
		} else {
			low = mediant()
		}
	}
	end := mediant()
	return end[0], end[1]
}

func TestPromise3Paths(t *testing.T) {
	cases := []struct {
		r    impl.Ratio
		want string
		code int64
	}{
		{over(5, 2), "RRL", impl.OK}, {over(2, 5), "LLR", impl.OK},
		{over(1, 1), "", impl.OK}, {over(2, 1), "R", impl.OK}, {over(1, 2), "L", impl.OK},
		{over(365, 24), strings.Repeat("R", 15) + "LLLLRLLL", impl.OK},
		{over(201, 1), strings.Repeat("R", 200), impl.OK}, {over(1, 201), strings.Repeat("L", 200), impl.OK},
		{over(200, 1), strings.Repeat("R", 199), impl.OK}, {over(1, 200), strings.Repeat("L", 199), impl.OK},
		{over(202, 1), "", impl.ErrFull}, {over(1, 202), "", impl.ErrFull},
		{over(401, 2), "", impl.ErrFull}, {over(399, 2), strings.Repeat("R", 199) + "L", impl.OK},
		{over(most, 1), "", impl.ErrFull}, {over(1, most), "", impl.ErrFull}, {over(most, most-1), "", impl.ErrFull},
		{over(701408733, 433494437), strings.Repeat("RL", 21), impl.OK},
		{over(0, 1), "", impl.ErrRange}, {over(-1, 1), "", impl.ErrRange}, {over(-5, 2), "", impl.ErrRange},
		{over(-202, 1), "", impl.ErrRange}, {over(-most, 1), "", impl.ErrRange}, {over(-1, most), "", impl.ErrRange},
	}
	for _, c := range cases {
		if got, code := impl.PathOf(c.r); got != c.want || code != c.code {
			t.Errorf("PathOf(%v): got %q %d, want %q %d", c.r, got, code, c.want, c.code)
		}
	}
}

func TestPromise3RatiosAreRestoredFromPaths(t *testing.T) {
	if impl.MaxPath != 200 {
		t.Errorf("MaxPath: got %d", impl.MaxPath)
	}
	full := 0
	for _, r := range append(manyRatios(), smallRatios(60)...) {
		if r.Num <= 0 {
			continue
		}
		terms, _ := impl.TermsOf(r)
		length := int64(-1)
		for _, term := range terms {
			length += term
		}
		path, code := impl.PathOf(r)
		if length > impl.MaxPath {
			full++
			if path != "" || code != impl.ErrFull {
				t.Errorf("PathOf(%v): got %q %d, want ErrFull", r, path, code)
			}
			continue
		}
		if n, d := walkPath(path); code != impl.OK || int64(len(path)) != length || !n.IsInt64() || over(n.Int64(), d.Int64()) != r {
			t.Errorf("PathOf(%v): got %q %d, which leads to %v/%v", r, path, code, n, d)
		}
		if got, code := impl.RatioOfPath(path); got != r || code != impl.OK {
			t.Errorf("RatioOfPath(%q): got %v %d, want %v", path, got, code, r)
		}
	}
	if full == 0 {
		t.Error("no path with too many letters was tried")
	}
}

func TestPromise3RatioOfPath(t *testing.T) {
	none := impl.Ratio{}
	rl, long := strings.Repeat("RL", 100), strings.Repeat("R", 200)
	cases := []struct {
		s    string
		want impl.Ratio
		code int64
	}{
		{"", over(1, 1), impl.OK}, {"R", over(2, 1), impl.OK}, {"L", over(1, 2), impl.OK},
		{"RRL", over(5, 2), impl.OK}, {"LLR", over(2, 5), impl.OK},
		{long, over(201, 1), impl.OK}, {strings.Repeat("L", 200), over(1, 201), impl.OK},
		{long + "R", none, impl.ErrFull}, {rl + "L", none, impl.ErrFull}, {long + "x", none, impl.ErrFull},
		{strings.Repeat("x", 201), none, impl.ErrFull}, {strings.Repeat("é", 101), none, impl.ErrFull}, {strings.Repeat("L", 100000), none, impl.ErrFull},
		{strings.Repeat("x", 200), none, impl.ErrSyntax}, {strings.Repeat("é", 100), none, impl.ErrSyntax},
		{"RxL", none, impl.ErrSyntax}, {"xRL", none, impl.ErrSyntax}, {"RLx", none, impl.ErrSyntax}, {"x", none, impl.ErrSyntax},
		{"rrl", none, impl.ErrSyntax}, {"R L", none, impl.ErrSyntax}, {" ", none, impl.ErrSyntax}, {"RL\n", none, impl.ErrSyntax},
		{"R\x00L", none, impl.ErrSyntax}, {"\xff", none, impl.ErrSyntax}, {"R\xffL", none, impl.ErrSyntax}, {"RRé", none, impl.ErrSyntax}, {"\u0130", none, impl.ErrSyntax},
		{rl[:199] + "x", none, impl.ErrSyntax}, {rl[:100] + "x" + rl[:99], none, impl.ErrSyntax},
		{rl, none, impl.ErrRange}, {rl[1:], none, impl.ErrRange}, {strings.Repeat("RRL", 66), none, impl.ErrRange},
		{rl[:42], over(701408733, 433494437), impl.OK}, {rl[:43], none, impl.ErrRange},
		{rl[1:43], over(433494437, 701408733), impl.OK}, {rl[1:44], none, impl.ErrRange},
	}
	for _, c := range cases {
		if got, code := impl.RatioOfPath(c.s); got != c.want || code != c.code {
			t.Errorf("RatioOfPath(%.250q): got %v %d, want %v %d", c.s, got, code, c.want, c.code)
		}
	}
}

// Ratios with a term of exactly MaxTerm that have paths are near the golden ratio.
func TestPromise3PathsAtTheGreatestTerm(t *testing.T) {
	found := 0
	for d := int64(618033900); d < 618034100; d++ {
		r := over(most, d)
		path, code := impl.PathOf(r)
		if !impl.ValidRatio(r) || code != impl.OK || len(path) == impl.MaxPath {
			continue
		}
		found++
		turned, code := impl.PathOf(over(d, most))
		if code != impl.OK {
			t.Errorf("PathOf(%d/%d): got %d, want OK", d, int64(most), code)
		}
		for s, want := range map[string]impl.Ratio{path: r, turned: over(d, most)} {
			if got, code := impl.RatioOfPath(s); got != want || code != impl.OK {
				t.Errorf("RatioOfPath(%q): got %v %d, want %v", s, got, code, want)
			}
			for _, letter := range []string{"L", "R"} {
				if got, code := impl.RatioOfPath(s + letter); got != (impl.Ratio{}) || code != impl.ErrRange {
					t.Errorf("RatioOfPath(%q): got %v %d, want ErrRange", s+letter, got, code)
				}
			}
		}
	}
	if found == 0 {
		t.Error("no path was tried")
	}
}

func TestPromise3RandomPaths(t *testing.T) {
	source := rand.New(rand.NewSource(5))
	seen := map[int64]int{}
	for range 3000 {
		letters, letter := make([]byte, source.Intn(201)), byte('R')
		same := 1 + source.Intn(60)
		for i := range letters {
			if source.Intn(same) == 0 {
				letter ^= 'L' ^ 'R'
			}
			letters[i] = letter
		}
		want, code := impl.Ratio{}, int64(impl.ErrRange)
		n, d := walkPath(string(letters))
		if r, ok := exactly(new(big.Rat).SetFrac(n, d)); ok {
			want, code = r, impl.OK
		}
		seen[code]++
		got, gotCode := impl.RatioOfPath(string(letters))
		if got != want || gotCode != code {
			t.Errorf("RatioOfPath(%q): got %v %d, want %v %d", letters, got, gotCode, want, code)
		}
		if back, backCode := impl.PathOf(got); code == impl.OK && (back != string(letters) || backCode != impl.OK) {
			t.Errorf("PathOf(%v): got %q %d, want %q", got, back, backCode, letters)
		}
	}
	if seen[impl.OK] < 100 || seen[impl.ErrRange] < 100 {
		t.Errorf("codes that were tried: %v", seen)
	}
}

func TestPromise3InvalidComesFirst(t *testing.T) {
	none := impl.Ratio{}
	others := append(invalidRatios(), over(0, 1), over(1, 2), over(most, 1), over(-most, 1), over(1, most))
	for _, bad := range invalidRatios() {
		if got, code := impl.TermsOf(bad); len(got) != 0 || code != impl.ErrInvalid {
			t.Errorf("TermsOf(%v): got %v %d, want ErrInvalid", bad, got, code)
		}
		if got, code := impl.ConvergentsOf(bad); len(got) != 0 || code != impl.ErrInvalid {
			t.Errorf("ConvergentsOf(%v): got %v %d, want ErrInvalid", bad, got, code)
		}
		if got, code := impl.PathOf(bad); got != "" || code != impl.ErrInvalid {
			t.Errorf("PathOf(%v): got %q %d, want ErrInvalid", bad, got, code)
		}
		for _, limit := range []int64{least, -1, 0, 1, 2, most, most + 1, greatest} {
			if low, high, code := impl.NeighboursOf(bad, limit); low != none || high != none || code != impl.ErrInvalid {
				t.Errorf("NeighboursOf(%v, %d): got %v %v %d, want ErrInvalid", bad, limit, low, high, code)
			}
			if got, code := impl.BestWithin(bad, limit); got != none || code != impl.ErrInvalid {
				t.Errorf("BestWithin(%v, %d): got %v %d, want ErrInvalid", bad, limit, got, code)
			}
		}
		for _, other := range others {
			for _, pair := range [][2]impl.Ratio{{bad, other}, {other, bad}} {
				if got, code := impl.MediantOf(pair[0], pair[1]); got != none || code != impl.ErrInvalid {
					t.Errorf("MediantOf(%v, %v): got %v %d, want ErrInvalid", pair[0], pair[1], got, code)
				}
				if got, code := impl.SimplestBetween(pair[0], pair[1]); got != none || code != impl.ErrInvalid {
					t.Errorf("SimplestBetween(%v, %v): got %v %d, want ErrInvalid", pair[0], pair[1], got, code)
				}
			}
		}
	}
}

func TestPromise1TermsAreNotChanged(t *testing.T) {
	for _, part := range [][]int64{{15, 4, 1, 4}, {}, {1, 0}, {most + 1, 2}, ones(44)} {
		whole := append(slices.Clone(part), 11, 12, 13)
		kept := slices.Clone(whole)
		first, firstCode := impl.RatioOfTerms(whole[:len(part)])
		second, secondCode := impl.RatioOfTerms(whole[:len(part)])
		if !slices.Equal(whole, kept) {
			t.Errorf("RatioOfTerms changed %v to %v", kept, whole)
		}
		if first != second || firstCode != secondCode {
			t.Errorf("RatioOfTerms(%v): got %v %d, then %v %d", part, first, firstCode, second, secondCode)
		}
	}
}

func TestPromise1FractionsAreNewAndEqual(t *testing.T) {
	for _, r := range manyRatios() {
		terms, _ := impl.TermsOf(r)
		convergents, _ := impl.ConvergentsOf(r)
		keptTerms, keptConvergents := slices.Clone(terms), slices.Clone(convergents)
		clear(terms[:cap(terms)])
		clear(convergents[:cap(convergents)])
		if again, _ := impl.TermsOf(r); !slices.Equal(again, keptTerms) {
			t.Errorf("TermsOf(%v) after a change of its result: got %v, want %v", r, again, keptTerms)
		}
		if again, _ := impl.ConvergentsOf(r); !slices.Equal(again, keptConvergents) {
			t.Errorf("ConvergentsOf(%v) after a change of its result: got %v, want %v", r, again, keptConvergents)
		}
		one, oneCode := impl.PathOf(r)
		two, twoCode := impl.PathOf(r)
		if one != two || oneCode != twoCode {
			t.Errorf("PathOf(%v): got %q %d, then %q %d", r, one, oneCode, two, twoCode)
		}
	}
}
