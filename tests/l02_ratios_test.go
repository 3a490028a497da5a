package tests

import (
	"math"
	"math/big"
	"math/rand"
	"strings"
	"testing"

	"loop.example/g00921/impl"
)

const (
	least    = math.MinInt64
	greatest = math.MaxInt64
	most     = impl.MaxTerm
)

func over(n, d int64) impl.Ratio { return impl.Ratio{Num: n, Den: d} }

// exactly returns the valid ratio with the value x by math/big, and whether there is one.
func exactly(x *big.Rat) (impl.Ratio, bool) {
	limit := big.NewInt(most)
	if x.Num().CmpAbs(limit) > 0 || x.Denom().Cmp(limit) > 0 {
		return impl.Ratio{}, false
	}
	return over(x.Num().Int64(), x.Denom().Int64()), true
}

func bigOf(r impl.Ratio) *big.Rat { return big.NewRat(r.Num, r.Den) }

// floorOf returns the greatest integer that is at most x.
func floorOf(x *big.Rat) int64 {
	return new(big.Int).Div(x.Num(), x.Denom()).Int64()
}

// roundOf returns the integer nearest to x, the greater one of two.
func roundOf(x *big.Rat) int64 {
	return floorOf(new(big.Rat).Add(x, big.NewRat(1, 2)))
}

func validRatios() []impl.Ratio {
	list := []impl.Ratio{
		over(0, 1), over(1, 1), over(-1, 1), over(1, 2), over(-1, 2), over(3, 2), over(-3, 2), over(5, 2), over(-5, 2), over(1, 3), over(-1, 3), over(2, 3), over(-2, 3), over(7, 4), over(-7, 4),
		over(most, 1), over(-most, 1), over(most-1, 1), over(1-most, 1), over(1, most), over(-1, most), over(1, most-1), over(-1, most-1),
		over(most, most-1), over(-most, most-1), over(most-1, most), over(1-most, most), over(most-1, 2), over(1-most, 2),
		over(most/2, 1), over(-most/2, 1), over(most/2+1, 1), over(most/2-1, most), over(most/2+1, most), over(31622, 31623), over(31623, 31622), over(365, 24), over(-365, 24),
	}
	source := rand.New(rand.NewSource(3))
	for range 60 {
		n, d := source.Int63n(2*most+1)-most, source.Int63n(most)+1
		shift := source.Intn(30)
		if r, ok := exactly(big.NewRat(n>>shift, d>>shift+1)); ok {
			list = append(list, r)
		}
	}
	return list
}

func invalidRatios() []impl.Ratio {
	return []impl.Ratio{
		over(0, 0), over(1, 0), over(-1, 0), over(0, -1), over(1, -1), over(-1, -1), over(0, 2), over(0, most), over(2, 2), over(4, 2), over(-4, 2), over(-2, 4), over(most, most), over(-most, most),
		over(most, 2), over(2, most), over(most+1, 1), over(-most-1, 1), over(1, most+1), over(1, -most), over(1, -most-1), over(0, most+1),
		over(greatest, 1), over(least, 1), over(1, greatest), over(1, least), over(greatest, greatest), over(least, least), over(least, greatest), over(greatest, least), over(0, least),
	}
}

func TestPromise2ValidRatio(t *testing.T) {
	if most != 1000000000 {
		t.Errorf("MaxTerm: got %d", most)
	}
	valid := []impl.Ratio{over(0, 1), over(1, 1), over(-1, 1), over(most, 1), over(-most, 1), over(1, most), over(-1, most), over(most, most-1), over(most-1, most), over(-most, most-1), over(1-most, most), over(5, 2), over(-5, 2)}
	for _, r := range valid {
		if !impl.ValidRatio(r) {
			t.Errorf("ValidRatio(%v): got false, want true", r)
		}
	}
	for _, r := range invalidRatios() {
		if impl.ValidRatio(r) {
			t.Errorf("ValidRatio(%v): got true, want false", r)
		}
	}
	for n := int64(-40); n <= 40; n++ {
		for d := int64(-40); d <= 40; d++ {
			want := d > 0 && new(big.Int).GCD(nil, nil, big.NewInt(n), big.NewInt(d)).Int64() == 1
			if got := impl.ValidRatio(over(n, d)); got != want {
				t.Errorf("ValidRatio(%d/%d): got %t, want %t", n, d, got, want)
			}
		}
	}
}

func TestPromise2MakeRatio(t *testing.T) {
	cases := []struct {
		n, d int64
		want impl.Ratio
		code int64
	}{
		{10, -4, over(-5, 2), impl.OK},
		{-10, -4, over(5, 2), impl.OK},
		{0, 7, over(0, 1), impl.OK},
		{0, least, over(0, 1), impl.OK},
		{least, least, over(1, 1), impl.OK},
		{least, -1 << 40, over(1<<23, 1), impl.OK},
		{1 << 40, least, over(-1, 1<<23), impl.OK},
		{greatest, -greatest, over(-1, 1), impl.OK},
		{most, 1, over(most, 1), impl.OK},
		{most, -1, over(-most, 1), impl.OK},
		{-1, -most, over(1, most), impl.OK},
		{2 * most, 2, over(most, 1), impl.OK},
		{3, 3 * most, over(1, most), impl.OK},
		{most + 1, 1, impl.Ratio{}, impl.ErrRange},
		{-most - 1, 1, impl.Ratio{}, impl.ErrRange},
		{1, most + 1, impl.Ratio{}, impl.ErrRange},
		{1, -most - 1, impl.Ratio{}, impl.ErrRange},
		{least, 1, impl.Ratio{}, impl.ErrRange},
		{least, -1, impl.Ratio{}, impl.ErrRange},
		{1, least, impl.Ratio{}, impl.ErrRange},
		{0, 0, impl.Ratio{}, impl.ErrState},
		{least, 0, impl.Ratio{}, impl.ErrState},
		{most + 1, 0, impl.Ratio{}, impl.ErrState},
	}
	for _, c := range cases {
		if got, code := impl.MakeRatio(c.n, c.d); got != c.want || code != c.code {
			t.Errorf("MakeRatio(%d, %d): got %v %d, want %v %d", c.n, c.d, got, code, c.want, c.code)
		}
	}
}

func TestPromise2MakeRatioOfEdges(t *testing.T) {
	for _, n := range edgeNumbers() {
		for _, d := range edgeNumbers() {
			want, code := impl.Ratio{}, int64(impl.ErrState)
			if d != 0 {
				code = impl.ErrRange
				if r, ok := exactly(new(big.Rat).SetFrac(big.NewInt(n), big.NewInt(d))); ok {
					want, code = r, impl.OK
				}
			}
			if got, gotCode := impl.MakeRatio(n, d); got != want || gotCode != code {
				t.Errorf("MakeRatio(%d, %d): got %v %d, want %v %d", n, d, got, gotCode, want, code)
			}
		}
	}
}

type operation struct {
	name string
	do   func(a, b impl.Ratio) (impl.Ratio, int64)
	want func(a, b *big.Rat) *big.Rat
}

func operations() []operation {
	return []operation{
		{"AddRatio", impl.AddRatio, func(a, b *big.Rat) *big.Rat { return new(big.Rat).Add(a, b) }},
		{"SubRatio", impl.SubRatio, func(a, b *big.Rat) *big.Rat { return new(big.Rat).Sub(a, b) }},
		{"MulRatio", impl.MulRatio, func(a, b *big.Rat) *big.Rat { return new(big.Rat).Mul(a, b) }},
		{"DivRatio", impl.DivRatio, func(a, b *big.Rat) *big.Rat {
			if b.Sign() == 0 {
				return nil
			}
			return new(big.Rat).Quo(a, b)
		}},
	}
}

func TestPromise2ArithmeticIsExact(t *testing.T) {
	list := validRatios()
	for _, op := range operations() {
		seen := map[int64]int{}
		for _, a := range list {
			for _, b := range list {
				want, code := impl.Ratio{}, int64(impl.ErrState)
				if x := op.want(bigOf(a), bigOf(b)); x != nil {
					code = impl.ErrRange
					if r, ok := exactly(x); ok {
						want, code = r, impl.OK
					}
				}
				seen[code]++
				if got, gotCode := op.do(a, b); got != want || gotCode != code {
					t.Errorf("%s(%v, %v): got %v %d, want %v %d", op.name, a, b, got, gotCode, want, code)
				}
			}
		}
		if seen[impl.OK] == 0 || seen[impl.ErrRange] == 0 || (seen[impl.ErrState] > 0) != (op.name == "DivRatio") {
			t.Errorf("%s: codes that were tried: %v", op.name, seen)
		}
	}
}

func TestPromise2ArithmeticAtTheLimits(t *testing.T) {
	one, top, tiny := over(1, 1), over(most, 1), over(1, most)
	under, bottom := over(most-1, 1), over(-most, 1)
	cases := []struct {
		op   int
		a, b impl.Ratio
		want impl.Ratio
		code int64
	}{
		{0, under, one, top, impl.OK},
		{0, top, one, impl.Ratio{}, impl.ErrRange},
		{0, top, bottom, over(0, 1), impl.OK},
		{0, top, tiny, impl.Ratio{}, impl.ErrRange},
		{0, over(-5, 2), over(1, 6), over(-7, 3), impl.OK},
		{1, top, one, under, impl.OK},
		{1, bottom, one, impl.Ratio{}, impl.ErrRange},
		{1, top, top, over(0, 1), impl.OK},
		{1, bottom, top, impl.Ratio{}, impl.ErrRange},
		{2, top, tiny, one, impl.OK},
		{2, top, top, impl.Ratio{}, impl.ErrRange},
		{2, tiny, tiny, impl.Ratio{}, impl.ErrRange},
		{2, top, over(0, 1), over(0, 1), impl.OK},
		{3, one, top, tiny, impl.OK},
		{3, one, bottom, over(-1, most), impl.OK},
		{3, bottom, bottom, one, impl.OK},
		{3, one, tiny, top, impl.OK},
		{3, tiny, top, impl.Ratio{}, impl.ErrRange},
		{3, top, tiny, impl.Ratio{}, impl.ErrRange},
		{3, top, over(0, 1), impl.Ratio{}, impl.ErrState},
		{3, over(0, 1), over(0, 1), impl.Ratio{}, impl.ErrState},
	}
	for _, c := range cases {
		op := operations()[c.op]
		if got, code := op.do(c.a, c.b); got != c.want || code != c.code {
			t.Errorf("%s(%v, %v): got %v %d, want %v %d", op.name, c.a, c.b, got, code, c.want, c.code)
		}
	}
}

func TestPromise2InvalidComesFirst(t *testing.T) {
	others := append(invalidRatios(), over(0, 1), over(1, 2), over(most, 1), over(1, most))
	for _, bad := range invalidRatios() {
		for _, other := range others {
			for _, pair := range [][2]impl.Ratio{{bad, other}, {other, bad}} {
				for _, op := range operations() {
					if got, code := op.do(pair[0], pair[1]); got != (impl.Ratio{}) || code != impl.ErrInvalid {
						t.Errorf("%s(%v, %v): got %v %d, want ErrInvalid", op.name, pair[0], pair[1], got, code)
					}
				}
				if got := impl.CompareRatio(pair[0], pair[1]); got != 0 {
					t.Errorf("CompareRatio(%v, %v): got %d, want 0", pair[0], pair[1], got)
				}
			}
		}
		if floor, round, text := impl.FloorRatio(bad), impl.RoundRatio(bad), impl.RatioText(bad); floor != 0 || round != 0 || text != "" {
			t.Errorf("invalid %v: got %d %d %q, want 0 0 and the empty string", bad, floor, round, text)
		}
		for _, n := range []int64{0, 1, -most, most, most + 1, -most - 1, least, greatest} {
			if got, code := impl.ScaleRatio(n, bad); got != 0 || code != impl.ErrInvalid {
				t.Errorf("ScaleRatio(%d, %v): got %d %d, want ErrInvalid", n, bad, got, code)
			}
		}
	}
}

func TestPromise2CompareTellsTheSignOfTheDifference(t *testing.T) {
	list := validRatios()
	for _, a := range list {
		for _, b := range list {
			got := impl.CompareRatio(a, b)
			if want := int64(bigOf(a).Cmp(bigOf(b))); got != want {
				t.Errorf("CompareRatio(%v, %v): got %d, want %d", a, b, got, want)
			}
			difference, code := impl.SubRatio(a, b)
			if code == impl.OK && got != impl.CompareRatio(difference, over(0, 1)) {
				t.Errorf("CompareRatio(%v, %v): got %d, but the difference is %v", a, b, got, difference)
			}
		}
	}
}

func TestPromise2RoundingIsNearest(t *testing.T) {
	cases := []struct {
		r            impl.Ratio
		floor, round int64
	}{
		{over(5, 2), 2, 3}, {over(-5, 2), -3, -2},
		{over(1, 2), 0, 1}, {over(-1, 2), -1, 0},
		{over(3, 2), 1, 2}, {over(-3, 2), -2, -1},
		{over(1, 3), 0, 0}, {over(-1, 3), -1, 0},
		{over(2, 3), 0, 1}, {over(-2, 3), -1, -1},
		{over(0, 1), 0, 0}, {over(7, 1), 7, 7}, {over(-7, 1), -7, -7},
		{over(most, 1), most, most}, {over(-most, 1), -most, -most},
		{over(most-1, 2), most/2 - 1, most / 2}, {over(1-most, 2), -most / 2, 1 - most/2},
		{over(most/2-1, most), 0, 0}, {over(most/2+1, most), 0, 1},
		{over(1-most/2, most), -1, 0}, {over(-most/2-1, most), -1, -1},
		{over(1, most), 0, 0}, {over(-1, most), -1, 0},
	}
	for _, c := range cases {
		if floor, round := impl.FloorRatio(c.r), impl.RoundRatio(c.r); floor != c.floor || round != c.round {
			t.Errorf("%v: got floor %d and round %d, want %d and %d", c.r, floor, round, c.floor, c.round)
		}
	}
	for _, r := range validRatios() {
		if got, want := impl.FloorRatio(r), floorOf(bigOf(r)); got != want {
			t.Errorf("FloorRatio(%v): got %d, want %d", r, got, want)
		}
		if got, want := impl.RoundRatio(r), roundOf(bigOf(r)); got != want {
			t.Errorf("RoundRatio(%v): got %d, want %d", r, got, want)
		}
	}
}

func TestPromise2ScaleRatio(t *testing.T) {
	half, minus := over(1, 2), over(-1, 2)
	cases := []struct {
		n    int64
		r    impl.Ratio
		want int64
		code int64
	}{
		{7, half, 4, impl.OK}, {-7, half, -3, impl.OK}, {7, minus, -3, impl.OK}, {-7, minus, 4, impl.OK},
		{0, minus, 0, impl.OK}, {-5, over(0, 1), 0, impl.OK},
		{most, over(most, 1), most * most, impl.OK}, {-most, over(most, 1), -most * most, impl.OK},
		{most, over(-most, 1), -most * most, impl.OK}, {-most, over(-most, 1), most * most, impl.OK},
		{most + 1, half, 0, impl.ErrRange}, {-most - 1, half, 0, impl.ErrRange},
		{most + 1, over(0, 1), 0, impl.ErrRange},
		{greatest, half, 0, impl.ErrRange}, {least, half, 0, impl.ErrRange},
	}
	for _, c := range cases {
		if got, code := impl.ScaleRatio(c.n, c.r); got != c.want || code != c.code {
			t.Errorf("ScaleRatio(%d, %v): got %d %d, want %d %d", c.n, c.r, got, code, c.want, c.code)
		}
	}
	for _, n := range edgeNumbers() {
		for _, r := range validRatios() {
			want, code := int64(0), int64(impl.ErrRange)
			if n >= -most && n <= most {
				want, code = roundOf(new(big.Rat).Mul(big.NewRat(n, 1), bigOf(r))), impl.OK
			}
			if got, gotCode := impl.ScaleRatio(n, r); got != want || gotCode != code {
				t.Errorf("ScaleRatio(%d, %v): got %d %d, want %d %d", n, r, got, gotCode, want, code)
			}
		}
	}
}

func TestPromise2TextsAreReadBack(t *testing.T) {
	for _, r := range validRatios() {
		text := impl.RatioText(r)
		if want := bigOf(r).RatString(); text != want {
			t.Errorf("RatioText(%v): got %q, want %q", r, text, want)
		}
		if got, ok := impl.ReadRatio(text); got != r || !ok {
			t.Errorf("ReadRatio(%q): got %v %t, want %v true", text, got, ok, r)
		}
	}
}

func TestPromise2ReadRatio(t *testing.T) {
	good := map[string]impl.Ratio{
		"0": over(0, 1), "3": over(3, 1), "-3": over(-3, 1), "5/2": over(5, 2), "-5/2": over(-5, 2),
		"1000000000": over(most, 1), "-1000000000": over(-most, 1), "1/1000000000": over(1, most),
		"-1000000000/999999999": over(-most, most-1),
	}
	for s, want := range good {
		if got, ok := impl.ReadRatio(s); got != want || !ok {
			t.Errorf("ReadRatio(%q): got %v %t, want %v true", s, got, ok, want)
		}
	}
	for _, s := range []string{
		"", "-", "/", "5/", "/2", "-/2", "5/-", "1/2/3", "1//2", "1/2/", "+1", "-0", "00", "03", "05/2", "5/02", "-05/2", "+5/2", "5/+2",
		"3/1", "0/1", "-0/1", "0/5", "1/0", "0/0", "4/2", "-4/2", "5/-2", "-5/-2", "1000000001", "-1000000001", "1/1000000001",
		"1000000000/1000000000", "999999999999999999", "1000000000000000000", "1/999999999999999999", "1/1000000000000000000",
		"18446744073709551617", "1/18446744073709551618", " 1", "1 ", "1 /2", "1/ 2", "1/2 ", "1.5", "a", "1/a", "1/2\n", "\xff", "1/\xff",
		strings.Repeat("1", 100000), "1/" + strings.Repeat("1", 100000), strings.Repeat("/", 100000),
	} {
		if got, ok := impl.ReadRatio(s); got != (impl.Ratio{}) || ok {
			t.Errorf("ReadRatio(%q): got %v %t, want the zero Ratio and false", s, got, ok)
		}
	}
}
