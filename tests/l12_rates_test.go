package tests

import (
	"fmt"
	"math/big"
	"math/rand"
	"slices"
	"strings"
	"sync"
	"testing"

	"loop.example/g00921/impl"
)

func rate(base, linear, curve, mid int64) impl.Rate {
	return impl.Rate{Base: base, Linear: linear, Curve: curve, Mid: mid}
}

// segments returns those of pairs of hours and a temperature.
func segments(numbers ...int64) []impl.Segment {
	list := []impl.Segment{}
	for i := 0; i < len(numbers); i += 2 {
		list = append(list, impl.Segment{Hours: numbers[i], Temp: numbers[i+1]})
	}
	return list
}

// sameTemps returns segments at the temperature 0 with some hours.
func sameTemps(hours ...int64) []impl.Segment {
	list := []impl.Segment{}
	for _, h := range hours {
		list = append(list, impl.Segment{Hours: h})
	}
	return list
}

func isTemp(temp int64) bool { return temp >= -400 && temp <= 600 }

func isRate(r impl.Rate) bool {
	return r.Base >= -100000000 && r.Base <= 100000000 && r.Linear >= -10000 && r.Linear <= 10000 && r.Curve >= -1000 && r.Curve <= 1000 && isTemp(r.Mid)
}

func isSegment(s impl.Segment) bool { return s.Hours >= 1 && s.Hours <= 240 && isTemp(s.Temp) }

func areSegments(list []impl.Segment) bool {
	for _, s := range list {
		if !isSegment(s) {
			return false
		}
	}
	return len(list) <= 60
}

// exactRate returns the rate at any number of tenths of a degree.
func exactRate(r impl.Rate, temp *big.Rat) *big.Rat {
	from := new(big.Rat).Sub(temp, big.NewRat(r.Mid, 1))
	sum := times(r.Linear, from)
	sum.Add(sum, times(r.Curve, from.Mul(from, from)))
	return sum.Add(sum, big.NewRat(r.Base, 1))
}

// exactSums returns the sums of Hours times the rate over all segments up to each one.
func exactSums(r impl.Rate, list []impl.Segment) []*big.Rat {
	sum := new(big.Rat)
	var sums []*big.Rat
	for _, s := range list {
		sum = new(big.Rat).Add(sum, times(s.Hours, exactRate(r, big.NewRat(s.Temp, 1))))
		sums = append(sums, sum)
	}
	return sums
}

func expectRateAt(r impl.Rate, temp int64) (int64, int64) {
	if !isRate(r) {
		return 0, impl.ErrInvalid
	}
	if !isTemp(temp) {
		return 0, impl.ErrRange
	}
	return floorOf(exactRate(r, big.NewRat(temp, 1))), impl.OK
}

func expectSum(r impl.Rate, list []impl.Segment) (int64, int64) {
	if !isRate(r) || !areSegments(list) {
		return 0, impl.ErrInvalid
	}
	if len(list) == 0 {
		return 0, impl.OK
	}
	sums := exactSums(r, list)
	return floorOf(sums[len(sums)-1]), impl.OK
}

func expectDrifts(r impl.Rate, list []impl.Segment) ([]int64, int64) {
	if !isRate(r) || !areSegments(list) {
		return nil, impl.ErrInvalid
	}
	var drifts []int64
	for _, sum := range exactSums(r, list) {
		drifts = append(drifts, roundOf(new(big.Rat).Mul(sum, big.NewRat(1, 24))))
	}
	return drifts, impl.OK
}

func expectWorst(r impl.Rate, list []impl.Segment) (int64, int64) {
	if !isRate(r) || !areSegments(list) {
		return 0, impl.ErrInvalid
	}
	if len(list) == 0 {
		return 0, impl.ErrState
	}
	sums := exactSums(r, list)
	for i, sum := range sums {
		isWorst := func(other *big.Rat) bool { return other.Num().CmpAbs(sum.Num()) > 0 }
		if !slices.ContainsFunc(sums, isWorst) {
			return int64(i), impl.OK
		}
	}
	panic("no sum is the greatest one")
}

// expectBase returns the best one of the bases that are next to the one without a drift, and of the limits.
func expectBase(r impl.Rate, list []impl.Segment) (int64, int64) {
	if !isRate(r) || !areSegments(list) {
		return 0, impl.ErrInvalid
	}
	if len(list) == 0 {
		return 0, impl.ErrState
	}
	r.Base = 0
	hours, bent := int64(0), new(big.Rat)
	for _, s := range list {
		hours += s.Hours
		bent.Add(bent, times(s.Hours, exactRate(r, big.NewRat(s.Temp, 1))))
	}
	below := floorOf(new(big.Rat).Quo(bent, big.NewRat(-hours, 1)))
	best, bestDrift := int64(0), (*big.Rat)(nil)
	for _, base := range []int64{-100000000, below - 1, below, below + 1, below + 2, 100000000} {
		drift := new(big.Rat).Add(bent, big.NewRat(base*hours, 1))
		drift.Abs(drift)
		if base >= -100000000 && base <= 100000000 && (bestDrift == nil || drift.Cmp(bestDrift) < 0) {
			best, bestDrift = base, drift
		}
	}
	return best, impl.OK
}

func expectMean(list []impl.Segment) (impl.Ratio, int64) {
	if !areSegments(list) {
		return impl.Ratio{}, impl.ErrInvalid
	}
	if len(list) == 0 {
		return impl.Ratio{}, impl.ErrState
	}
	hours, sum := int64(0), int64(0)
	for _, s := range list {
		// Hour by hour.
		for range s.Hours {
			hours++
			sum += s.Temp
		}
	}
	mean, _ := exactly(big.NewRat(sum, hours))
	return mean, impl.OK
}

// expectMerged asks each segment whether it fits into what the ones before it have left.
func expectMerged(list []impl.Segment) ([]impl.Segment, int64) {
	if !areSegments(list) {
		return nil, impl.ErrInvalid
	}
	var merged []impl.Segment
	hours := int64(0)
	for i, s := range list {
		if i > 0 && list[i-1].Temp == s.Temp && hours+s.Hours < 241 {
			hours += s.Hours
			merged = merged[:len(merged)-1]
		} else {
			hours = s.Hours
		}
		merged = append(merged, impl.Segment{Hours: hours, Temp: s.Temp})
	}
	return merged, impl.OK
}

func exactBalance(r impl.Rate) *big.Rat {
	return new(big.Rat).Sub(big.NewRat(r.Mid, 1), big.NewRat(r.Linear, 2*r.Curve))
}

func expectBalance(r impl.Rate) (impl.Ratio, int64) {
	if !isRate(r) {
		return impl.Ratio{}, impl.ErrInvalid
	}
	if r.Curve == 0 {
		return impl.Ratio{}, impl.ErrState
	}
	point, _ := exactly(exactBalance(r))
	return point, impl.OK
}

func expectOther(r impl.Rate, temp int64) (int64, int64) {
	if !isRate(r) {
		return 0, impl.ErrInvalid
	}
	if !isTemp(temp) {
		return 0, impl.ErrRange
	}
	if r.Curve == 0 {
		return 0, impl.ErrState
	}
	point := exactBalance(r)
	distance := new(big.Rat).Sub(point, big.NewRat(temp, 1))
	other := distance.Add(point, distance)
	if !other.IsInt() || !isTemp(floorOf(other)) {
		return 0, impl.ErrNotFound
	}
	return floorOf(other), impl.OK
}

func checkRate(t *testing.T, r impl.Rate, temp, want, wantCode int64) {
	t.Helper()
	if got, code := impl.RateAt(r, temp); got != want || code != wantCode {
		t.Errorf("RateAt(%v, %d): got %d, code %d, want %d, code %d", r, temp, got, code, want, wantCode)
	}
}

func checkSum(t *testing.T, r impl.Rate, list []impl.Segment, want, wantCode int64) {
	t.Helper()
	if got, code := impl.DriftSum(r, list); got != want || code != wantCode {
		t.Errorf("DriftSum(%v, %v): got %d, code %d, want %d, code %d", r, list, got, code, want, wantCode)
	}
}

func checkDrifts(t *testing.T, r impl.Rate, list []impl.Segment, want []int64, wantCode int64) {
	t.Helper()
	if got, code := impl.DriftsAfter(r, list); !slices.Equal(got, want) || code != wantCode {
		t.Errorf("DriftsAfter(%v, %v): got %v, code %d, want %v, code %d", r, list, got, code, want, wantCode)
	}
}

func checkWorst(t *testing.T, r impl.Rate, list []impl.Segment, want, wantCode int64) {
	t.Helper()
	if got, code := impl.WorstSegment(r, list); got != want || code != wantCode {
		t.Errorf("WorstSegment(%v, %v): got %d, code %d, want %d, code %d", r, list, got, code, want, wantCode)
	}
}

func checkBase(t *testing.T, r impl.Rate, list []impl.Segment, want, wantCode int64) {
	t.Helper()
	if got, code := impl.BestBase(r, list); got != want || code != wantCode {
		t.Errorf("BestBase(%v, %v): got %d, code %d, want %d, code %d", r, list, got, code, want, wantCode)
	}
}

func checkMean(t *testing.T, list []impl.Segment, want impl.Ratio, wantCode int64) {
	t.Helper()
	if got, code := impl.MeanTemp(list); got != want || code != wantCode {
		t.Errorf("MeanTemp(%v): got %v, code %d, want %v, code %d", list, got, code, want, wantCode)
	}
}

func checkMerged(t *testing.T, list, want []impl.Segment, wantCode int64) {
	t.Helper()
	if got, code := impl.MergeSegments(list); !slices.Equal(got, want) || code != wantCode {
		t.Errorf("MergeSegments(%v): got %v, code %d, want %v, code %d", list, got, code, want, wantCode)
	}
}

func checkBalance(t *testing.T, r impl.Rate, want impl.Ratio, wantCode int64) {
	t.Helper()
	if got, code := impl.BalancePoint(r); got != want || code != wantCode {
		t.Errorf("BalancePoint(%v): got %v, code %d, want %v, code %d", r, got, code, want, wantCode)
	}
}

func checkOther(t *testing.T, r impl.Rate, temp, want, wantCode int64) {
	t.Helper()
	if got, code := impl.OtherTemp(r, temp); got != want || code != wantCode {
		t.Errorf("OtherTemp(%v, %d): got %d, code %d, want %d, code %d", r, temp, got, code, want, wantCode)
	}
}

// checkDriftFunctions checks all functions of a rate and segments.
func checkDriftFunctions(t *testing.T, r impl.Rate, list []impl.Segment) {
	t.Helper()
	sum, code := expectSum(r, list)
	checkSum(t, r, list, sum, code)
	drifts, code := expectDrifts(r, list)
	checkDrifts(t, r, list, drifts, code)
	worst, code := expectWorst(r, list)
	checkWorst(t, r, list, worst, code)
	base, code := expectBase(r, list)
	checkBase(t, r, list, base, code)
}

// anyRate returns a valid one with numbers of any size.
func anyRate(source *rand.Rand) impl.Rate {
	number := func(most int64) int64 {
		return []int64{0, most, -most, source.Int63n(2*most+1) - most, source.Int63n(41) - 20, source.Int63n(5) - 2}[source.Intn(6)]
	}
	return rate(number(100000000), number(10000), number(1000), anyTemp(source))
}

func anyTemp(source *rand.Rand) int64 {
	return []int64{-400, 600, 0, source.Int63n(41) - 20, source.Int63n(1001) - 400, source.Int63n(1001) - 400}[source.Intn(6)]
}

// anySegments returns a valid list, often with equal temperatures beside each other.
func anySegments(source *rand.Rand) []impl.Segment {
	var list []impl.Segment
	temp := anyTemp(source)
	for range []int{0, 1, 2, 60, source.Intn(61), source.Intn(8)}[source.Intn(6)] {
		if source.Intn(3) == 0 {
			temp = anyTemp(source)
		}
		hours := []int64{1, 240, 120, 1 + source.Int63n(240), 1 + source.Int63n(20)}[source.Intn(5)]
		list = append(list, impl.Segment{Hours: hours, Temp: temp})
	}
	return list
}

func notTemps() []int64 { return append(farNumbers(), -401, -402, -600, 601, 602, 1000) }

// badRates are rates that are not valid for one reason, and some with several ones.
func badRates() []impl.Rate {
	list := []impl.Rate{rate(100000001, 10001, 1001, 601), rate(-100000001, -10001, -1001, -401), rate(least, least, least, least), rate(greatest, greatest, greatest, greatest)}
	for _, bad := range append(farNumbers()[:6], 100000001, 100000002, -100000001, -100000002, 1<<31+5) {
		list = append(list, rate(bad, 10, -2, 200), rate(bad, 0, 0, 0))
	}
	for _, bad := range append(farNumbers(), 10001, 10002, -10001, -10002) {
		list = append(list, rate(1000, bad, -2, 200), rate(0, bad, 0, 0))
	}
	for _, bad := range append(farNumbers(), 1001, 1002, -1001, -1002) {
		list = append(list, rate(1000, 10, bad, 200), rate(0, 0, bad, 0))
	}
	for _, bad := range notTemps() {
		list = append(list, rate(1000, 10, -2, bad), rate(0, 0, 0, bad))
	}
	return list
}

func notHours() []int64 { return append(farNumbers(), -240, -24, -1, 0, 241, 242, 1000) }

// badSegments are lists that are not valid for one reason, and some with several ones.
func badSegments() [][]impl.Segment {
	list := [][]impl.Segment{make([]impl.Segment, 1), segments(0, 601), segments(241, -401), make([]impl.Segment, 61), slices.Repeat(segments(24, 100), 61), slices.Repeat(segments(1, 0), 62), slices.Repeat(segments(240, 600), 1000), append(slices.Repeat(segments(24, 100), 60), segments(0, 0)...)}
	for place := range 3 {
		for _, bad := range notHours() {
			one := slices.Repeat(segments(24, 100), 3)
			one[place].Hours = bad
			list = append(list, one)
		}
		for _, bad := range notTemps() {
			one := slices.Repeat(segments(24, 100), 3)
			one[place].Temp = bad
			list = append(list, one)
		}
	}
	for _, bad := range segments(0, 100, 241, 100, 24, 601, 24, -401) {
		full := slices.Repeat(segments(24, 100), 60)
		full[59] = bad
		list = append(list, []impl.Segment{bad}, full)
	}
	return list
}

func TestPromise12ValidRate(t *testing.T) {
	if impl.MaxRate != 100000000 || impl.MaxLinear != 10000 || impl.MaxCurve != 1000 || impl.MinTemp != -400 || impl.MaxTemp != 600 || impl.MaxHours != 240 || impl.MaxSegments != 60 {
		t.Error("a limit is not that of the specification")
	}
	for _, c := range []struct {
		base, linear, curve, mid int64
		want                     bool
	}{
		{1000, 10, -2, 200, true}, {0, 0, 0, 0, true},
		{-100000000, 10, -2, 200, true}, {-100000001, 10, -2, 200, false}, {-99999999, 10, -2, 200, true}, {100000000, 10, -2, 200, true}, {100000001, 10, -2, 200, false}, {99999999, 10, -2, 200, true},
		{1000, -10000, -2, 200, true}, {1000, -10001, -2, 200, false}, {1000, -9999, -2, 200, true}, {1000, 10000, -2, 200, true}, {1000, 10001, -2, 200, false}, {1000, 9999, -2, 200, true},
		{1000, 10, -1000, 200, true}, {1000, 10, -1001, 200, false}, {1000, 10, -999, 200, true}, {1000, 10, 0, 200, true}, {1000, 10, 1, 200, true}, {1000, 10, -1, 200, true}, {1000, 10, 1000, 200, true}, {1000, 10, 1001, 200, false}, {1000, 10, 999, 200, true},
		{1000, 10, -2, -400, true}, {1000, 10, -2, -401, false}, {1000, 10, -2, -399, true}, {1000, 10, -2, 600, true}, {1000, 10, -2, 601, false}, {1000, 10, -2, 599, true}, {1000, 10, -2, 0, true}, {1000, 10, -2, -600, false},
		{100000000, 10000, 1000, 600, true}, {-100000000, -10000, -1000, -400, true}, {100000001, 10001, 1001, 601, false}, {-100000001, -10001, -1001, -401, false},
	} {
		r := rate(c.base, c.linear, c.curve, c.mid)
		if got := impl.ValidRate(r); got != c.want {
			t.Errorf("ValidRate(%v): got %t, want %t", r, got, c.want)
		}
	}
	for _, r := range badRates() {
		if impl.ValidRate(r) {
			t.Errorf("ValidRate(%v): got true, want false", r)
		}
	}
}

func TestPromise12FieldsOfRates(t *testing.T) {
	numbers := append(farNumbers(), -1, 0, 1, -399, -400, -401, 599, 600, 601, 999, 1000, 1001, -999, -1000, -1001, 9999, 10000, 10001, -9999, -10000, -10001, 99999999, 100000000, 100000001, -99999999, -100000000, -100000001)
	for _, n := range numbers {
		for _, base := range []impl.Rate{{}, rate(1000, 10, -2, 200), rate(100000000, 10000, 1000, 600), rate(-100000000, -10000, -1000, -400)} {
			for i := range 4 {
				r := base
				*[]*int64{&r.Base, &r.Linear, &r.Curve, &r.Mid}[i] = n
				if got := impl.ValidRate(r); got != isRate(r) {
					t.Errorf("ValidRate(%v): got %t, want %t", r, got, isRate(r))
				}
			}
		}
	}
}

func TestPromise12ValidSegments(t *testing.T) {
	for _, c := range []struct {
		list []impl.Segment
		want bool
	}{
		{nil, true}, {segments(), true}, {segments(24, 100), true}, {segments(24, 100, 12, -100), true}, {segments(24, 100, 24, 100), true},
		{slices.Repeat(segments(24, 100), 59), true}, {slices.Repeat(segments(24, 100), 60), true}, {slices.Repeat(segments(24, 100), 61), false}, {slices.Repeat(segments(24, 100), 120), false},
		{segments(0, 100), false}, {segments(1, 100), true}, {segments(2, 100), true}, {segments(239, 100), true}, {segments(240, 100), true}, {segments(241, 100), false}, {segments(-1, 100), false},
		{segments(24, -402), false}, {segments(24, -401), false}, {segments(24, -400), true}, {segments(24, -399), true}, {segments(24, 0), true}, {segments(24, 599), true}, {segments(24, 600), true}, {segments(24, 601), false},
		{segments(1, -400, 240, 600), true}, {segments(0, 0, 24, 100), false}, {segments(24, 100, 0, 0), false}, {segments(24, 100, 241, 100), false}, {segments(24, 100, 24, -401, 24, 100), false},
	} {
		if got := impl.ValidSegments(c.list); got != c.want {
			t.Errorf("ValidSegments(%v): got %t, want %t", c.list, got, c.want)
		}
	}
	for _, list := range badSegments() {
		if impl.ValidSegments(list) || areSegments(list) {
			t.Errorf("ValidSegments(%v): got true, want false", list)
		}
	}
	for place := range 60 {
		for _, bad := range segments(0, 100, 241, 100, 24, 601, 24, -401) {
			list := slices.Repeat(segments(24, 100), 60)
			if !impl.ValidSegments(list) {
				t.Fatal("ValidSegments: got false for 60 segments")
			}
			list[place] = bad
			if impl.ValidSegments(list) {
				t.Errorf("ValidSegments: got true, although segment %d is %v", place, bad)
			}
		}
	}
}

func TestPromise12RateAt(t *testing.T) {
	for _, c := range []struct{ base, linear, curve, mid, temp, want int64 }{
		{1000, 10, -2, 200, 210, 900}, {1000, 10, -2, 200, 200, 1000}, {1000, 10, -2, 200, 190, 700}, {1000, 10, -2, 200, 202, 1012}, {1000, 10, -2, 200, 203, 1012}, {1000, 10, -2, 200, 205, 1000}, {1000, 10, -2, 200, 206, 988},
		{1000, 10, -2, 200, -400, -725000}, {1000, 10, -2, 200, 600, -315000}, {0, 0, 0, 0, 0, 0}, {0, 0, 0, 0, 600, 0}, {7, 0, 0, -400, 600, 7}, {-7, 0, 0, 600, -400, -7},
		{0, 1, 0, 0, -400, -400}, {0, 1, 0, 0, 600, 600}, {0, 1, 0, -400, -400, 0}, {0, 1, 0, -400, 600, 1000}, {0, 1, 0, 600, -400, -1000}, {0, -1, 0, 600, -400, 1000}, {0, 0, 1, 0, -400, 160000}, {0, 0, 1, 0, 600, 360000}, {0, 0, -1, 0, 3, -9}, {0, 0, 1, 600, -400, 1000000}, {0, 0, 1, -1, 1, 4},
		// The greatest and the least rates.
		{100000000, 10000, 1000, -400, 600, 1110000000}, {100000000, -10000, 1000, 600, -400, 1110000000}, {-100000000, -10000, -1000, -400, 600, -1110000000}, {-100000000, 10000, -1000, 600, -400, -1110000000}, {100000000, 9999, 1000, -400, 600, 1109999000}, {100000000, 10000, 999, -400, 600, 1109000000}, {99999999, 10000, 1000, -400, 600, 1109999999}, {100000000, 10000, 1000, -400, 599, 1107991000},
		{100000000, 10000, -1000, -400, 600, -890000000}, {-100000000, 10000, 1000, -400, 600, 910000000}, {100000000, -10000, 1000, -400, 600, 1090000000}, {-100000000, -10000, 1000, 600, -400, 910000000},
	} {
		r := rate(c.base, c.linear, c.curve, c.mid)
		checkRate(t, r, c.temp, c.want, impl.OK)
		if want, code := expectRateAt(r, c.temp); want != c.want || code != impl.OK {
			t.Errorf("rate of %v at %d: got %d, exactly %d", r, c.temp, c.want, want)
		}
	}
	for _, bad := range notTemps() {
		checkRate(t, rate(1000, 10, -2, 200), bad, 0, impl.ErrRange)
		checkRate(t, impl.Rate{}, bad, 0, impl.ErrRange)
		checkRate(t, rate(1000, 10, -2, -401), bad, 0, impl.ErrInvalid)
	}
}

func TestPromise12RatesAtAllTemperatures(t *testing.T) {
	source := rand.New(rand.NewSource(121))
	list := []impl.Rate{{}, rate(1000, 10, -2, 200), rate(100000000, 10000, 1000, -400), rate(-100000000, -10000, -1000, 600)}
	for range 50 {
		list = append(list, anyRate(source))
	}
	for _, r := range list {
		for temp := int64(-405); temp <= 605; temp++ {
			want, code := expectRateAt(r, temp)
			checkRate(t, r, temp, want, code)
			if want < -1110000000 || want > 1110000000 {
				t.Fatalf("the rate of %v at %d is %d", r, temp, want)
			}
		}
	}
}

func TestPromise12DriftSum(t *testing.T) {
	r := rate(1000, 10, -2, 200)
	for _, c := range []struct {
		r    impl.Rate
		list []impl.Segment
		want int64
	}{
		{r, nil, 0}, {r, segments(), 0}, {impl.Rate{}, nil, 0}, {impl.Rate{}, segments(240, 600), 0},
		{r, segments(1, 200), 1000}, {r, segments(36, 200), 36000}, {r, segments(240, 200), 240000}, {r, segments(1, 210), 900}, {r, segments(3, 210), 2700}, {r, segments(3, 210, 2, 190), 4100}, {r, segments(2, 190, 3, 210), 4100}, {r, segments(3, 210, 2, 210), 4500},
		{rate(-1000, 0, 0, 0), segments(36, 0), -36000}, {rate(0, 1, 0, 0), segments(10, 5, 10, -20), -150}, {rate(0, 1, 0, 0), segments(10, 5, 10, -5), 0},
		// Equal segments at the greatest and the least rates.
		{rate(100000000, 10000, 1000, -400), slices.Repeat(segments(240, 600), 60), 15984000000000}, {rate(-100000000, -10000, -1000, -400), slices.Repeat(segments(240, 600), 60), -15984000000000}, {rate(100000000, -10000, 1000, 600), slices.Repeat(segments(240, -400), 60), 15984000000000}, {rate(-100000000, 10000, -1000, 600), slices.Repeat(segments(240, -400), 60), -15984000000000},
		{rate(100000000, 10000, 1000, -400), slices.Repeat(segments(240, 600), 59), 15717600000000}, {rate(100000000, 10000, 1000, -400), slices.Repeat(segments(1, 600), 60), 66600000000}, {rate(100000000, 0, 0, 0), slices.Repeat(segments(240, 0), 60), 1440000000000},
	} {
		checkSum(t, c.r, c.list, c.want, impl.OK)
		if want, code := expectSum(c.r, c.list); want != c.want || code != impl.OK {
			t.Errorf("sum of %v over %v: got %d, exactly %d", c.r, c.list, c.want, want)
		}
	}
}

func TestPromise12DriftsAfter(t *testing.T) {
	r := rate(1000, 0, 0, 0)
	checkDrifts(t, r, segments(36, 0), []int64{1500}, impl.OK)
	checkDrifts(t, r, segments(12, 0, 24, 0), []int64{500, 1500}, impl.OK)
	checkDrifts(t, r, segments(12, 0, 24, 100, 240, -400), []int64{500, 1500, 11500}, impl.OK)
	checkDrifts(t, r, nil, nil, impl.OK)
	checkDrifts(t, r, segments(), nil, impl.OK)
	checkDrifts(t, impl.Rate{}, segments(1, 0, 240, 600), []int64{0, 0}, impl.OK)
	slow := rate(-1000, 0, 0, 0)
	checkDrifts(t, slow, segments(36, 0), []int64{-1500}, impl.OK)
	checkDrifts(t, rate(0, 1, 0, 0), segments(24, 5, 24, -20, 24, 15), []int64{5, -15, 0}, impl.OK)
	// The sum is rounded, and not the drift of each segment.
	checkDrifts(t, rate(1, 0, 0, 0), sameTemps(12, 12, 12, 12), []int64{1, 1, 2, 2}, impl.OK)
	checkDrifts(t, rate(-1, 0, 0, 0), sameTemps(12, 12, 12, 12), []int64{0, -1, -1, -2}, impl.OK)
	checkDrifts(t, rate(1, 0, 0, 0), sameTemps(11, 11, 11, 11), []int64{0, 1, 1, 2}, impl.OK)
	checkDrifts(t, rate(-1, 0, 0, 0), sameTemps(11, 11, 11, 11), []int64{0, -1, -1, -2}, impl.OK)
	checkDrifts(t, rate(1, 0, 0, 0), sameTemps(1, 1, 1), []int64{0, 0, 0}, impl.OK)
	// The greatest and the least drifts.
	for sign := int64(-1); sign <= 1; sign += 2 {
		var want []int64
		for i := range int64(60) {
			want = append(want, sign*11100000000*(i+1))
		}
		checkDrifts(t, rate(sign*100000000, sign*10000, sign*1000, -400), slices.Repeat(segments(240, 600), 60), want, impl.OK)
	}
}

func TestPromise12DriftsAreRounded(t *testing.T) {
	for _, c := range []struct{ sum, want int64 }{
		// Whole numbers, ones exactly between two, and ones that are nearest to either.
		{0, 0}, {24, 1}, {48, 2}, {-24, -1}, {-48, -2}, {240, 10}, {-240, -10},
		{12, 1}, {36, 2}, {60, 3}, {-12, 0}, {-36, -1}, {-60, -2}, {228, 10}, {-228, -9},
		{1, 0}, {11, 0}, {13, 1}, {23, 1}, {25, 1}, {35, 1}, {37, 2}, {47, 2}, {-1, 0}, {-11, 0}, {-13, -1}, {-23, -1}, {-25, -1}, {-35, -1}, {-37, -2}, {-47, -2},
	} {
		sign := int64(1)
		if c.sum < 0 {
			sign = -1
		}
		if c.sum != 0 {
			checkDrifts(t, rate(sign, 0, 0, 0), sameTemps(sign*c.sum), []int64{c.want}, impl.OK)
		}
		checkDrifts(t, rate(c.sum, 0, 0, 0), sameTemps(1), []int64{c.want}, impl.OK)
	}
	for sum := int64(-2000); sum <= 2000; sum++ {
		want := roundOf(big.NewRat(sum, 24))
		checkDrifts(t, rate(sum, 0, 0, 0), sameTemps(1), []int64{want}, impl.OK)
		checkDrifts(t, rate(sum+99997000, 0, 0, 0), sameTemps(1), []int64{roundOf(big.NewRat(sum+99997000, 24))}, impl.OK)
		if far := max(24*want-sum, sum-24*want); far > 12 || far == 12 && 24*want < sum {
			t.Fatalf("%d is not nearest to a 24th part of %d", want, sum)
		}
	}
}

func TestPromise12DriftsAddUp(t *testing.T) {
	source := rand.New(rand.NewSource(122))
	for range 3000 {
		r, list := anyRate(source), anySegments(source)
		checkDriftFunctions(t, r, list)
		drifts, _ := impl.DriftsAfter(r, list)
		whole, _ := impl.DriftSum(r, list)
		for k := range len(list) + 1 {
			first, code := impl.DriftSum(r, list[:k])
			last, otherCode := impl.DriftSum(r, list[k:])
			if first+last != whole || code != impl.OK || otherCode != impl.OK {
				t.Errorf("DriftSum(%v, %v): got %d, but %d and %d in two parts", r, list, whole, first, last)
			}
			if k > 0 && drifts[k-1] != roundOf(big.NewRat(first, 24)) {
				t.Errorf("DriftsAfter(%v, %v): got %v, but the first %d segments have the sum %d", r, list, drifts, k, first)
			}
		}
		// The order of the segments makes no difference for the sum, nor does it how the hours of one are divided.
		mixed := slices.Clone(list)
		source.Shuffle(len(mixed), func(i, k int) { mixed[i], mixed[k] = mixed[k], mixed[i] })
		checkSum(t, r, mixed, whole, impl.OK)
		if len(list) > 0 && len(list) < 60 && list[0].Hours > 1 {
			part := list[0]
			part.Hours = 1 + source.Int63n(part.Hours-1)
			divided := append([]impl.Segment{part}, list...)
			divided[1].Hours -= part.Hours
			checkSum(t, r, divided, whole, impl.OK)
		}
	}
}

func TestPromise12DriftsOfRatesAddUp(t *testing.T) {
	source := rand.New(rand.NewSource(123))
	for range 2000 {
		r, list := anyRate(source), anySegments(source)
		whole, _ := impl.DriftSum(r, list)
		sum := int64(0)
		for _, part := range []impl.Rate{rate(r.Base, 0, 0, r.Mid), rate(0, r.Linear, 0, r.Mid), rate(0, 0, r.Curve, r.Mid)} {
			drift, _ := impl.DriftSum(part, list)
			sum += drift
		}
		if sum != whole {
			t.Errorf("DriftSum(%v, %v): got %d, but %d with one field after the other", r, list, whole, sum)
		}
		checkSum(t, rate(-r.Base, -r.Linear, -r.Curve, r.Mid), list, -whole, impl.OK)
		if len(list) > 0 {
			at, _ := impl.RateAt(r, list[0].Temp)
			checkSum(t, r, list[:1], list[0].Hours*at, impl.OK)
		}
	}
}

func TestPromise12WorstSegment(t *testing.T) {
	one := rate(0, 1, 0, 0)
	for _, c := range []struct {
		r    impl.Rate
		list []impl.Segment
		want int64
	}{
		{one, segments(10, 5), 0}, {one, segments(10, 0), 0}, {one, segments(10, -5), 0},
		// First, in the middle and last.
		{one, segments(10, 50, 10, -20, 10, -20), 0}, {one, segments(10, 10, 10, 40, 10, -20), 1}, {one, segments(10, 10, 10, 40, 10, 1), 2}, {one, segments(10, -50, 10, 20, 10, 20), 0}, {one, segments(10, -10, 10, -40, 10, 20), 1}, {one, segments(10, -10, 10, -40, 10, -1), 2}, {one, segments(10, 50, 10, -100, 10, -1), 2}, {one, segments(10, 50, 20, -100, 10, 99), 1},
		{one, segments(10, 5, 10, -20, 10, 10), 1}, {one, segments(10, 5, 10, -10, 10, 6), 0},
		// Equally great with equal and with opposite signs, and by one greater.
		{one, segments(10, 5, 10, 0, 5, 0), 0}, {one, segments(10, 5, 10, -10, 10, 10), 0}, {one, segments(10, -5, 10, 10, 10, -10), 0}, {one, segments(1, 1, 10, 5, 1, -102), 1}, {one, segments(10, 5, 1, -101), 1}, {one, segments(10, -5, 1, 101), 1}, {one, segments(10, 5, 1, -99), 0}, {one, segments(10, -5, 1, 99), 0}, {one, segments(10, 3, 10, -2, 10, 2), 0},
		// Sums that fall back to 0, once and again, and ones that are always 0.
		{one, segments(10, 5, 10, -5), 0}, {one, segments(10, 5, 10, -5, 10, 5), 0}, {one, segments(10, 5, 10, -5, 10, 6), 2}, {one, segments(10, 5, 10, -5, 10, -6, 10, 6), 2}, {one, segments(10, 0, 10, 5, 10, -5), 1}, {one, segments(10, 0, 10, -5, 10, 5), 1}, {one, segments(10, 0, 10, 0, 10, 0), 0}, {impl.Rate{}, slices.Repeat(segments(240, 600), 60), 0},
		// Before the division, although the drifts are equal after it.
		{one, segments(10, 1, 1, 1), 1}, {one, segments(11, 1, 1, -1), 0}, {one, segments(13, 1, 1, -1, 2, 1), 2}, {one, segments(12, 1, 12, -2), 0}, {one, segments(12, -1, 12, 2), 0}, {one, segments(12, -1, 13, 2), 1}, {one, segments(13, 1, 13, -2), 0},
		{rate(100000000, 10000, 1000, -400), slices.Repeat(segments(240, 600), 60), 59}, {rate(-100000000, -10000, -1000, -400), slices.Repeat(segments(240, 600), 60), 59}, {rate(1000, 0, 0, 0), slices.Repeat(segments(1, 0), 60), 59},
	} {
		checkWorst(t, c.r, c.list, c.want, impl.OK)
		if want, _ := expectWorst(c.r, c.list); want != c.want {
			t.Errorf("worst segment of %v for %v: got %d, by trying %d", c.list, c.r, c.want, want)
		}
	}
	checkWorst(t, one, nil, 0, impl.ErrState)
	checkWorst(t, one, segments(), 0, impl.ErrState)
	checkWorst(t, impl.Rate{}, nil, 0, impl.ErrState)
}

// smallSegments are all lists of up to count segments with a few small hours and temperatures.
func smallSegments(count int) [][]impl.Segment {
	lists := [][]impl.Segment{nil}
	all := [][]impl.Segment{nil}
	for range count {
		var longer [][]impl.Segment
		for _, list := range lists {
			for _, s := range segments(1, 1, 2, 1, 1, -1, 2, -1, 1, 0, 3, -2, 240, 1) {
				longer = append(longer, append(slices.Clone(list), s))
			}
		}
		lists = longer
		all = append(all, lists...)
	}
	return all
}

func TestPromise12FunctionsOfSmallSegments(t *testing.T) {
	rates := []impl.Rate{rate(0, 1, 0, 0), rate(0, -1, 0, 0), rate(0, 12, 0, 0), rate(1, 0, 0, 0), rate(-7, 1, 1, 0), rate(3, -2, 1, 1)}
	for _, list := range smallSegments(4) {
		for _, r := range rates {
			checkDriftFunctions(t, r, list)
		}
		mean, code := expectMean(list)
		checkMean(t, list, mean, code)
		merged, code := expectMerged(list)
		checkMerged(t, list, merged, code)
	}
}

func TestPromise12BestBase(t *testing.T) {
	one := rate(0, 1, 0, 0)
	// Of 2000 hours, 1001 are at 600 and 999 at -400: the mean of 500 and -500 is 1/2.
	halfMore := append(slices.Repeat(segments(240, 600, 240, -400), 4), segments(41, 600, 39, -400)...)
	for _, c := range []struct {
		r    impl.Rate
		list []impl.Segment
		want int64
	}{
		// Whole numbers.
		{one, segments(10, 5), -5}, {one, segments(10, -5), 5}, {one, segments(10, 5, 10, -5), 0}, {one, segments(10, 5, 30, -3), 1}, {one, segments(10, -5, 30, 3), -1}, {impl.Rate{}, segments(24, 0), 0}, {rate(1000, 10, -2, 200), segments(24, 200), 0}, {rate(1000, 10, -2, 200), segments(24, 210), 100}, {rate(1000, 10, -2, 200), segments(1, 190), 300}, {rate(1000, 10, -2, 200), segments(3, 203), -12},
		// Exactly between two, where the lesser one is taken.
		{one, segments(10, 5, 10, -20), 7}, {one, segments(10, -5, 10, 20), -8}, {one, segments(1, 1, 1, 0), -1}, {one, segments(1, -1, 1, 0), 0}, {one, segments(120, 1, 120, 0), -1}, {one, segments(120, -1, 120, 0), 0}, {one, segments(1, 3, 1, 0), -2}, {one, segments(1, -3, 1, 0), 1},
		// Nearest to either.
		{one, segments(1, 1, 2, 0), 0}, {one, segments(2, 1, 1, 0), -1}, {one, segments(1, -1, 2, 0), 0}, {one, segments(2, -1, 1, 0), 1}, {one, segments(119, 1, 121, 0), 0}, {one, segments(121, 1, 119, 0), -1}, {one, segments(119, -1, 121, 0), 0}, {one, segments(121, -1, 119, 0), 1}, {one, segments(121, -1, 119, -2), 1}, {one, segments(119, -1, 121, -2), 2},
		// At the limits, and beyond them.
		{rate(0, 0, 100, -400), segments(24, 600), -100000000}, {rate(0, 0, -100, -400), segments(24, 600), 100000000}, {rate(0, 1, 100, -400), segments(24, 600), -100000000}, {rate(0, -1, 100, -400), segments(24, 600), -99999000}, {rate(0, 1, -100, -400), segments(24, 600), 99999000}, {rate(0, -1, -100, -400), segments(24, 600), 100000000}, {rate(0, 0, 101, -400), segments(24, 600), -100000000}, {rate(0, 0, -101, -400), segments(24, 600), 100000000}, {rate(0, 10000, 1000, -400), segments(240, 600), -100000000}, {rate(0, -10000, -1000, -400), segments(240, 600), 100000000},
		// Beyond a limit or in front of it by a half and by less than one.
		{rate(0, 1, 400, 100), halfMore, -100000000}, {rate(0, -1, 400, 100), halfMore, -100000000}, {rate(0, 1, -400, 100), halfMore, 99999999}, {rate(0, -1, -400, 100), halfMore, 100000000}, {rate(0, 2, 100, -400), segments(99, 600, 1, 599), -100000000}, {rate(0, -2, -100, -400), segments(99, 600, 1, 599), 100000000}, {rate(0, 1, 100, -400), segments(199, 600, 1, 599), -100000000}, {rate(0, -1, -100, -400), segments(199, 600, 1, 599), 100000000},
	} {
		for _, base := range []int64{0, 1, -1, 1000, 100000000, -100000000} {
			r := c.r
			r.Base = base
			checkBase(t, r, c.list, c.want, impl.OK)
		}
		if want, _ := expectBase(c.r, c.list); want != c.want {
			t.Errorf("best base of %v for %v: got %d, by trying %d", c.r, c.list, c.want, want)
		}
	}
	checkBase(t, one, nil, 0, impl.ErrState)
	checkBase(t, one, segments(), 0, impl.ErrState)
	checkBase(t, rate(100000000, 0, 0, 0), nil, 0, impl.ErrState)
}

// driftWith returns the absolute value of DriftSum with a base.
func driftWith(t *testing.T, r impl.Rate, list []impl.Segment, base int64) int64 {
	t.Helper()
	r.Base = base
	sum, code := impl.DriftSum(r, list)
	if code != impl.OK {
		t.Fatalf("DriftSum(%v, %v): got code %d", r, list, code)
	}
	return max(sum, -sum)
}

func TestPromise12NoBaseIsBetterThanTheBestOne(t *testing.T) {
	source := rand.New(rand.NewSource(124))
	count := map[string]int{}
	for range 4000 {
		r, list := anyRate(source), anySegments(source)
		switch source.Intn(4) {
		case 0:
			// Just about a limit.
			sign := 1 - 2*source.Int63n(2)
			r.Mid, r.Curve, r.Linear = -400, sign*100, source.Int63n(5)-2
			list = segments(1+source.Int63n(240), 600, 1+source.Int63n(240), 599+source.Int63n(2))
		case 1:
			// Often exactly between two.
			hours := 1 + source.Int63n(240)
			list = segments(hours, anyTemp(source), hours, anyTemp(source))
		}
		if len(list) == 0 {
			continue
		}
		best, code := impl.BestBase(r, list)
		if code != impl.OK || best < -100000000 || best > 100000000 {
			t.Fatalf("BestBase(%v, %v): got %d, code %d", r, list, best, code)
		}
		drift := driftWith(t, r, list, best)
		others := []int64{-100000000, -99999999, 0, r.Base, 99999999, 100000000, source.Int63n(200000001) - 100000000}
		for d := int64(-5); d <= 5; d++ {
			others = append(others, best+d)
		}
		for _, other := range others {
			if other < -100000000 || other > 100000000 {
				continue
			}
			got := driftWith(t, r, list, other)
			if got < drift || got == drift && other < best {
				t.Errorf("BestBase(%v, %v): got %d with the drift %d, but with %d it is %d", r, list, best, drift, other, got)
			}
			if got == drift && other > best {
				count["two"]++
			}
		}
		switch {
		case drift == 0:
			count["exact"]++
		case best == 100000000 || best == -100000000:
			count["limit"]++
		}
	}
	if count["two"] < 50 || count["exact"] < 300 || count["limit"] < 300 {
		t.Errorf("the results are not of all kinds: %v", count)
	}
}

func TestPromise12MeanTemp(t *testing.T) {
	for _, c := range []struct {
		list []impl.Segment
		want impl.Ratio
	}{
		{segments(10, 5, 10, -20), over(-15, 2)}, {segments(10, 5), over(5, 1)}, {segments(10, -5), over(-5, 1)}, {segments(240, 0), over(0, 1)}, {segments(10, 5, 10, -5), over(0, 1)}, {segments(20, 5, 10, -10), over(0, 1)}, {segments(1, 5, 1, 6), over(11, 2)}, {segments(1, 5, 2, 6), over(17, 3)}, {segments(2, 5, 4, 6), over(17, 3)}, {segments(100, 5, 200, 6), over(17, 3)}, {segments(1, -5, 2, -6), over(-17, 3)}, {segments(1, 5, 2, 5), over(5, 1)},
		{segments(240, 600), over(600, 1)}, {segments(240, -400), over(-400, 1)}, {slices.Repeat(segments(240, 600), 60), over(600, 1)}, {slices.Repeat(segments(240, -400), 60), over(-400, 1)}, {slices.Repeat(segments(240, 600, 240, -400), 30), over(100, 1)},
		{append(slices.Repeat(segments(240, 600), 59), segments(239, 599)...), over(8639161, 14399)}, {append(slices.Repeat(segments(240, -400), 59), segments(239, -399)...), over(-5759361, 14399)}, {append(slices.Repeat(segments(240, 0), 59), segments(1, 1)...), over(1, 14161)}, {append(slices.Repeat(segments(240, 0), 59), segments(1, -1)...), over(-1, 14161)},
	} {
		checkMean(t, c.list, c.want, impl.OK)
		if want, _ := expectMean(c.list); want != c.want {
			t.Errorf("mean of %v: got %v, hour by hour %v", c.list, c.want, want)
		}
	}
	checkMean(t, nil, impl.Ratio{}, impl.ErrState)
	checkMean(t, segments(), impl.Ratio{}, impl.ErrState)
}

func TestPromise12MeansOfAnySegments(t *testing.T) {
	source := rand.New(rand.NewSource(125))
	for range 3000 {
		list := anySegments(source)
		want, code := expectMean(list)
		checkMean(t, list, want, code)
		if code != impl.OK {
			continue
		}
		if !impl.ValidRatio(want) || impl.CompareRatio(want, over(-400, 1)) < 0 || impl.CompareRatio(want, over(600, 1)) > 0 {
			t.Errorf("MeanTemp(%v): %v is no mean", list, want)
		}
		merged, _ := impl.MergeSegments(list)
		checkMean(t, merged, want, impl.OK)
		// The drift by a linear rate is that at the mean temperature.
		hours, sum := int64(0), int64(0)
		for _, s := range list {
			hours += s.Hours
		}
		sum, _ = impl.DriftSum(rate(0, 7, 0, 0), list)
		if big.NewRat(sum, 1).Cmp(new(big.Rat).Mul(bigOf(want), big.NewRat(7*hours, 1))) != 0 {
			t.Errorf("MeanTemp(%v): got %v, but the drift is %d", list, want, sum)
		}
	}
}

func TestPromise12MergeSegments(t *testing.T) {
	for _, c := range []struct{ list, want []impl.Segment }{
		{nil, nil}, {segments(), nil}, {segments(100, 5), segments(100, 5)}, {segments(240, 5), segments(240, 5)},
		{segments(100, 5, 100, 5, 100, 5, 10, 6), segments(200, 5, 100, 5, 10, 6)},
		// Together MaxHours, one more and one less.
		{segments(120, 5, 120, 5), segments(240, 5)}, {segments(120, 5, 121, 5), segments(120, 5, 121, 5)}, {segments(120, 5, 119, 5), segments(239, 5)}, {segments(239, 5, 1, 5), segments(240, 5)}, {segments(1, 5, 239, 5), segments(240, 5)}, {segments(240, 5, 1, 5), segments(240, 5, 1, 5)}, {segments(1, 5, 240, 5), segments(1, 5, 240, 5)}, {segments(239, 5, 2, 5), segments(239, 5, 2, 5)}, {segments(1, 5, 1, 5), segments(2, 5)},
		// With one that is merged itself, and behind one that is full.
		{segments(80, 5, 80, 5, 80, 5), segments(240, 5)}, {segments(80, 5, 80, 5, 81, 5), segments(160, 5, 81, 5)}, {segments(80, 5, 80, 5, 79, 5), segments(239, 5)}, {segments(80, 5, 80, 5, 81, 5, 80, 5), segments(160, 5, 161, 5)}, {segments(120, 5, 120, 5, 1, 5), segments(240, 5, 1, 5)}, {segments(120, 5, 120, 5, 1, 5, 239, 5, 1, 5), segments(240, 5, 240, 5, 1, 5)}, {segments(240, 5, 240, 5, 240, 5), segments(240, 5, 240, 5, 240, 5)}, {segments(200, 5, 100, 5, 40, 5), segments(200, 5, 140, 5)}, {segments(200, 5, 41, 5, 40, 5), segments(200, 5, 81, 5)}, {segments(200, 5, 40, 5, 40, 5), segments(240, 5, 40, 5)},
		// Equal temperatures that are not beside each other, and different ones.
		{segments(10, 5, 10, 6, 10, 5), segments(10, 5, 10, 6, 10, 5)}, {segments(10, 5, 10, 5, 10, 6, 10, 5, 10, 5), segments(20, 5, 10, 6, 20, 5)}, {segments(10, 5, 10, -5), segments(10, 5, 10, -5)}, {segments(10, -5, 10, -5), segments(20, -5)}, {segments(10, 0, 10, 1, 10, 1, 10, 0), segments(10, 0, 20, 1, 10, 0)}, {segments(10, 5, 10, 6), segments(10, 5, 10, 6)}, {segments(240, 5, 240, 6, 1, 6), segments(240, 5, 240, 6, 1, 6)},
		{slices.Repeat(segments(1, 0), 60), segments(60, 0)}, {slices.Repeat(segments(4, 0), 60), segments(240, 0)}, {slices.Repeat(segments(5, 0), 60), segments(240, 0, 60, 0)}, {slices.Repeat(segments(240, 600), 60), slices.Repeat(segments(240, 600), 60)}, {slices.Repeat(segments(7, 600, 7, -400), 30), slices.Repeat(segments(7, 600, 7, -400), 30)}, {slices.Repeat(segments(121, -400), 60), slices.Repeat(segments(121, -400), 60)}, {slices.Repeat(segments(120, -400), 60), slices.Repeat(segments(240, -400), 30)},
	} {
		checkMerged(t, c.list, c.want, impl.OK)
		if want, _ := expectMerged(c.list); !slices.Equal(want, c.want) {
			t.Errorf("merged %v: got %v, otherwise %v", c.list, c.want, want)
		}
	}
}

func TestPromise12MergedSegmentsDriftAsBefore(t *testing.T) {
	source := rand.New(rand.NewSource(126))
	fewer := 0
	for range 4000 {
		r, list := anyRate(source), anySegments(source)
		want, code := expectMerged(list)
		checkMerged(t, list, want, code)
		sum, _ := impl.DriftSum(r, list)
		checkSum(t, r, want, sum, impl.OK)
		if !impl.ValidSegments(want) {
			t.Errorf("MergeSegments(%v): %v are not valid", list, want)
		}
		for i := 1; i < len(want); i++ {
			if want[i].Temp == want[i-1].Temp && want[i].Hours+want[i-1].Hours <= 240 {
				t.Errorf("MergeSegments(%v): %v are not merged", list, want)
			}
		}
		if len(want) < len(list) {
			fewer++
		}
	}
	if fewer < 1000 {
		t.Errorf("only %d lists became shorter", fewer)
	}
}

func TestPromise12BalancePoint(t *testing.T) {
	for _, c := range []struct {
		linear, curve, mid int64
		want               impl.Ratio
	}{
		// Temperatures, with a positive and a negative curve.
		{0, 1, 200, over(200, 1)}, {0, -1, 200, over(200, 1)}, {0, 1000, 0, over(0, 1)}, {0, -1000, -400, over(-400, 1)}, {0, 7, 600, over(600, 1)}, {10, 1, 200, over(195, 1)}, {10, -1, 200, over(205, 1)}, {-10, 1, 200, over(205, 1)}, {-10, -1, 200, over(195, 1)}, {400, 1, 200, over(0, 1)}, {402, 1, 200, over(-1, 1)}, {-800, -1, 0, over(-400, 1)}, {-1200, 1, 0, over(600, 1)}, {1200, -1, 0, over(600, 1)}, {10000, 10, 100, over(-400, 1)},
		// Ones that are not whole numbers.
		{10, -2, 200, over(405, 2)}, {10, 2, 200, over(395, 2)}, {1, 1, 0, over(-1, 2)}, {-1, 1, 0, over(1, 2)}, {1, -1, 0, over(1, 2)}, {-1, -1, 0, over(-1, 2)}, {1, 1000, 0, over(-1, 2000)}, {1, -1000, 0, over(1, 2000)}, {5, -2, 200, over(805, 4)}, {10000, 999, 0, over(-5000, 999)}, {9999, 1000, 600, over(1190001, 2000)}, {-9999, 1000, 600, over(1209999, 2000)}, {9999, 1000, -400, over(-809999, 2000)}, {2, 3, 100, over(299, 3)}, {6, 9, 100, over(299, 3)}, {3, 6, 100, over(399, 4)},
		// Ones beyond MinTemp and MaxTemp.
		{802, 1, 0, over(-401, 1)}, {801, 1, 0, over(-801, 2)}, {-1202, 1, 0, over(601, 1)}, {-1201, 1, 0, over(1201, 2)}, {1201, -1, 0, over(1201, 2)}, {1, 1, -400, over(-801, 2)}, {-1, 1, 600, over(1201, 2)}, {10000, 1, 600, over(-4400, 1)}, {10000, 1, -400, over(-5400, 1)}, {-10000, 1, 600, over(5600, 1)}, {10000, -1, 600, over(5600, 1)}, {9999, 1, -400, over(-10799, 2)}, {-9999, 1, 600, over(11199, 2)},
	} {
		for _, base := range []int64{0, 1000, 100000000, -100000000} {
			checkBalance(t, rate(base, c.linear, c.curve, c.mid), c.want, impl.OK)
		}
		if want, _ := expectBalance(rate(0, c.linear, c.curve, c.mid)); want != c.want {
			t.Errorf("balance point of %v: got %v, exactly %v", c, c.want, want)
		}
	}
	for _, r := range []impl.Rate{{}, rate(1000, 10, 0, 200), rate(1000, 0, 0, 200), rate(0, 10000, 0, -400), rate(0, -10000, 0, 600)} {
		checkBalance(t, r, impl.Ratio{}, impl.ErrState)
	}
}

func TestPromise12RatesAreExtremeAtTheBalancePoint(t *testing.T) {
	source := rand.New(rand.NewSource(127))
	count := map[string]int{}
	for range 3000 {
		r := anyRate(source)
		want, code := expectBalance(r)
		checkBalance(t, r, want, code)
		if code != impl.OK {
			count["none"]++
			continue
		}
		point, _ := impl.BalancePoint(r)
		extreme := exactRate(r, bigOf(point))
		sign := 1
		if r.Curve < 0 {
			sign = -1
		}
		count[fmt.Sprint(sign, want.Den == 1)]++
		temps := []int64{-400, -399, 0, 599, 600, anyTemp(source)}
		for d := int64(-2); d <= 2; d++ {
			temps = append(temps, min(max(impl.FloorRatio(point)+d, -400), 600))
		}
		for _, temp := range temps {
			at, code := impl.RateAt(r, temp)
			isPoint := point == over(temp, 1)
			if order := big.NewRat(at, 1).Cmp(extreme); code != impl.OK || isPoint && order != 0 || !isPoint && order != sign {
				t.Errorf("%v has the rate %d at %d, and %v at the balance point %v", r, at, temp, extreme, point)
			}
		}
		// Also at any numbers as far from it on both sides.
		far := big.NewRat(1+source.Int63n(100000), 1+source.Int63n(1000))
		above, below := exactRate(r, new(big.Rat).Add(bigOf(point), far)), exactRate(r, new(big.Rat).Sub(bigOf(point), far))
		if above.Cmp(below) != 0 || above.Cmp(extreme) != sign {
			t.Errorf("%v has the rates %v and %v beside the balance point %v", r, above, below, point)
		}
	}
	for _, kind := range []string{"none", "1 true", "1 false", "-1 true", "-1 false"} {
		if count[kind] < 100 {
			t.Errorf("the results are not of all kinds: %v", count)
		}
	}
}

func TestPromise12OtherTemp(t *testing.T) {
	for _, c := range []struct{ linear, curve, mid, temp, want, code int64 }{
		{10, -2, 200, 210, 195, impl.OK}, {10, -2, 200, 195, 210, impl.OK}, {10, -2, 200, -300, 0, impl.ErrNotFound}, {5, -2, 200, 210, 0, impl.ErrNotFound},
		// At MinTemp and MaxTemp, and one beyond each.
		{0, 1, 100, -400, 600, impl.OK}, {0, 1, 100, 600, -400, impl.OK}, {0, -1, 100, 600, -400, impl.OK}, {0, 1, 99, -400, 598, impl.OK}, {0, 1, 99, -402, 0, impl.ErrRange}, {0, 1, 99, 598, -400, impl.OK}, {0, 1, 99, 599, 0, impl.ErrNotFound}, {0, 1, 99, 600, 0, impl.ErrNotFound}, {0, 1, 101, -400, 0, impl.ErrNotFound}, {0, 1, 101, -399, 0, impl.ErrNotFound}, {0, 1, 101, -398, 600, impl.OK},
		{1, 1, 100, -400, 599, impl.OK}, {1, 1, 100, 600, 0, impl.ErrNotFound}, {1, 1, 100, 599, -400, impl.OK}, {-1, 1, 100, -400, 0, impl.ErrNotFound}, {-1, 1, 100, -399, 600, impl.OK}, {-1, 1, 100, 600, -399, impl.OK}, {1, -1, 100, -399, 600, impl.OK}, {1, -1, 100, -400, 0, impl.ErrNotFound},
		{0, 1, 200, -401, 0, impl.ErrRange}, {0, 1, 200, 601, 0, impl.ErrRange}, {0, 1, 200, -400, 0, impl.ErrNotFound}, {0, 1, 200, -201, 0, impl.ErrNotFound}, {0, 1, 200, -200, 600, impl.OK}, {0, 1, 0, 401, 0, impl.ErrNotFound}, {0, 1, 0, 400, -400, impl.OK}, {0, 1, 0, -400, 400, impl.OK},
		// At the balance point itself, and beside it.
		{0, 1, 200, 200, 200, impl.OK}, {10, 1, 200, 195, 195, impl.OK}, {10, -1, 200, 205, 205, impl.OK}, {0, 1, 600, 600, 600, impl.OK}, {0, 1, -400, -400, -400, impl.OK}, {0, 1, 600, 599, 0, impl.ErrNotFound}, {0, 1, -400, -399, 0, impl.ErrNotFound}, {0, 1, 200, 201, 199, impl.OK}, {1, 1, 0, 0, -1, impl.OK}, {1, 1, 0, -1, 0, impl.OK}, {-1, 1, 0, 0, 1, impl.OK}, {-800, -1, 0, -400, -400, impl.OK}, {1200, -1, 0, 600, 600, impl.OK},
		// The balance point is beyond the temperatures.
		{802, 1, 0, -400, 0, impl.ErrNotFound}, {801, 1, 0, -400, 0, impl.ErrNotFound}, {-1201, 1, 0, 600, 0, impl.ErrNotFound}, {10000, 1, 600, -400, 0, impl.ErrNotFound}, {10000, -1, -400, 600, 0, impl.ErrNotFound},
		// The one on the other side is not an integer.
		{1, 2, 200, 200, 0, impl.ErrNotFound}, {-1, 2, 200, 200, 0, impl.ErrNotFound}, {1, -2, 200, 200, 0, impl.ErrNotFound}, {3, 2, 200, 201, 0, impl.ErrNotFound}, {4, 2, 200, 201, 197, impl.OK}, {2, 4, 200, 200, 0, impl.ErrNotFound}, {1, 1000, 200, 200, 0, impl.ErrNotFound}, {999, 1000, 200, 200, 0, impl.ErrNotFound}, {1000, 1000, 200, 200, 199, impl.OK}, {-1000, 1000, 200, 200, 201, impl.OK}, {1001, 1000, 200, 200, 0, impl.ErrNotFound}, {10000, 7, 200, 200, 0, impl.ErrNotFound}, {10000, -16, 200, 200, 0, impl.ErrNotFound}, {10000, -25, 0, 0, 400, impl.OK},
	} {
		for _, base := range []int64{0, -1000, 100000000} {
			checkOther(t, rate(base, c.linear, c.curve, c.mid), c.temp, c.want, c.code)
		}
		if want, code := expectOther(rate(0, c.linear, c.curve, c.mid), c.temp); want != c.want || code != c.code {
			t.Errorf("other temperature for %v: got %d, code %d, exactly %d, code %d", c, c.want, c.code, want, code)
		}
	}
	for _, temp := range []int64{-400, 0, 200, 600} {
		for _, r := range []impl.Rate{{}, rate(1000, 10, 0, 200), rate(0, 0, 0, temp)} {
			checkOther(t, r, temp, 0, impl.ErrState)
		}
	}
}

func TestPromise12OtherTempsHaveTheSameRate(t *testing.T) {
	source := rand.New(rand.NewSource(128))
	count := map[int64]int{}
	for i := range 300 {
		r := anyRate(source)
		if i%2 == 0 && r.Curve != 0 {
			r.Linear = r.Curve * (source.Int63n(2*(10000/max(r.Curve, -r.Curve))+1) - 10000/max(r.Curve, -r.Curve)) % 10001
		}
		for temp := int64(-402); temp <= 602; temp++ {
			want, code := expectOther(r, temp)
			checkOther(t, r, temp, want, code)
			count[code]++
			if code != impl.OK {
				continue
			}
			checkOther(t, r, want, temp, impl.OK)
			at, _ := impl.RateAt(r, temp)
			checkRate(t, r, want, at, impl.OK)
			point, _ := impl.BalancePoint(r)
			if bigOf(point).Cmp(big.NewRat(temp+want, 2)) != 0 {
				t.Errorf("OtherTemp(%v, %d): got %d, but the balance point is %v", r, temp, want, point)
			}
		}
	}
	if count[impl.OK] < 10000 || count[impl.ErrNotFound] < 10000 || count[impl.ErrState] < 10000 || count[impl.ErrRange] < 1000 {
		t.Errorf("the results are not of all kinds: %v", count)
	}
}

func TestPromise12ErrorsInTheirOrder(t *testing.T) {
	good, flat := rate(1000, 10, -2, 200), rate(1000, 10, 0, 200)
	list := segments(24, 100, 12, -100)
	checkInvalid := func(r impl.Rate, list []impl.Segment) {
		checkSum(t, r, list, 0, impl.ErrInvalid)
		checkDrifts(t, r, list, nil, impl.ErrInvalid)
		checkWorst(t, r, list, 0, impl.ErrInvalid)
		checkBase(t, r, list, 0, impl.ErrInvalid)
	}
	for _, bad := range badRates() {
		for _, other := range [][]impl.Segment{list, nil, segments(0, 0), slices.Repeat(segments(24, 100), 61)} {
			checkInvalid(bad, other)
		}
		for _, temp := range []int64{0, 210, -400, 600, -401, 601, least, greatest} {
			checkRate(t, bad, temp, 0, impl.ErrInvalid)
			checkOther(t, bad, temp, 0, impl.ErrInvalid)
		}
		checkBalance(t, bad, impl.Ratio{}, impl.ErrInvalid)
	}
	for _, bad := range badSegments() {
		checkInvalid(good, bad)
		checkInvalid(impl.Rate{}, bad)
		checkMean(t, bad, impl.Ratio{}, impl.ErrInvalid)
		checkMerged(t, bad, nil, impl.ErrInvalid)
	}
	for _, bad := range notTemps() {
		checkRate(t, good, bad, 0, impl.ErrRange)
		checkRate(t, flat, bad, 0, impl.ErrRange)
		// Instead of ErrState, ErrNotFound and both.
		checkOther(t, flat, bad, 0, impl.ErrRange)
		checkOther(t, good, bad, 0, impl.ErrRange)
		checkOther(t, rate(0, 1, 2, 0), bad, 0, impl.ErrRange)
		checkOther(t, rate(0, 1, 0, 0), bad, 0, impl.ErrRange)
	}
	checkOther(t, rate(0, 1, 0, 200), -400, 0, impl.ErrState)
}

// rateResults returns all that the functions of rates tell.
func rateResults(r impl.Rate, list []impl.Segment, temp int64) string {
	var text strings.Builder
	tell := func(values ...any) { text.WriteString(fmt.Sprintln(values...)) }
	tell(impl.ValidRate(r), impl.ValidSegments(list))
	for _, f := range []func(impl.Rate, int64) (int64, int64){impl.RateAt, impl.OtherTemp} {
		n, code := f(r, temp)
		tell(n, code)
	}
	for _, f := range []func(impl.Rate, []impl.Segment) (int64, int64){impl.DriftSum, impl.WorstSegment, impl.BestBase} {
		n, code := f(r, list)
		tell(n, code)
	}
	drifts, code := impl.DriftsAfter(r, list)
	tell(drifts, code)
	merged, code := impl.MergeSegments(list)
	tell(merged, code)
	// What is behind the end of a result is nobody's.
	clear(drifts[:cap(drifts)])
	clear(merged[:cap(merged)])
	mean, code := impl.MeanTemp(list)
	tell(mean, code)
	point, code := impl.BalancePoint(r)
	tell(point, code)
	return text.String()
}

// expectedRates returns what rateResults should be.
func expectedRates(r impl.Rate, list []impl.Segment, temp int64) string {
	var text strings.Builder
	tell := func(values ...any) { text.WriteString(fmt.Sprintln(values...)) }
	tell(isRate(r), areSegments(list))
	for _, f := range []func(impl.Rate, int64) (int64, int64){expectRateAt, expectOther} {
		n, code := f(r, temp)
		tell(n, code)
	}
	for _, f := range []func(impl.Rate, []impl.Segment) (int64, int64){expectSum, expectWorst, expectBase} {
		n, code := f(r, list)
		tell(n, code)
	}
	drifts, code := expectDrifts(r, list)
	tell(drifts, code)
	merged, code := expectMerged(list)
	tell(merged, code)
	mean, code := expectMean(list)
	tell(mean, code)
	point, code := expectBalance(r)
	tell(point, code)
	return text.String()
}

func TestPromise12AllResultsWithAnyNumbers(t *testing.T) {
	source := rand.New(rand.NewSource(129))
	numbers := append(farNumbers(), -401, -400, -1, 0, 1, 2, 240, 241, 600, 601, 1000, 1001, 10000, 10001, 100000000, 100000001, -1000, -1001, -10000, -10001, -100000000, -100000001)
	for range 10000 {
		r, list, temp := anyRate(source), anySegments(source), anyTemp(source)
		fields := []*int64{&r.Base, &r.Linear, &r.Curve, &r.Mid, &temp}
		for i := range list {
			fields = append(fields, &list[i].Hours, &list[i].Temp)
		}
		for range source.Intn(3) {
			*fields[source.Intn(len(fields))] = numbers[source.Intn(len(numbers))]
		}
		got, want := rateResults(r, list, temp), expectedRates(r, list, temp)
		if got != want {
			t.Errorf("results for %v, %v, %d: got %s, want %s", r, list, temp, got, want)
		}
		if again := rateResults(r, list, temp); again != got {
			t.Errorf("results for %v, %v, %d: got %s, but %s before", r, list, temp, again, got)
		}
	}
}

func TestPromise1SegmentsAreNotModified(t *testing.T) {
	source := rand.New(rand.NewSource(130))
	for range 1000 {
		whole := anySegments(source)
		if len(whole) > 0 && source.Intn(4) == 0 {
			whole[source.Intn(len(whole))].Hours = 0
		}
		before := slices.Clone(whole)
		list := whole[:source.Intn(len(whole)+1)]
		r := anyRate(source)
		want := rateResults(r, list, 100)
		if !slices.Equal(whole, before) {
			t.Errorf("the functions of rates changed %v to %v", before, whole)
		}
		if got := rateResults(r, slices.Clone(list), 100); got != want {
			t.Errorf("results for %v, %v: got %s, but %s before", r, list, got, want)
		}
		// Results that change later leave the argument as it is.
		merged, _ := impl.MergeSegments(list)
		for i := range merged {
			merged[i].Hours = -7
		}
		if !slices.Equal(whole, before) {
			t.Errorf("MergeSegments(%v): the result shares its memory", list)
		}
	}
	for _, r := range []impl.Rate{{}, rate(1000, 10, -2, 200), rate(0, 0, 0, 601)} {
		if nothing, empty := rateResults(r, nil, 5), rateResults(r, make([]impl.Segment, 0, 3), 5); nothing != empty {
			t.Errorf("nil segments lead to %s, empty ones to %s", nothing, empty)
		}
	}
}

// checkFromGoroutines checks that count results are the same if several goroutines ask for them at once.
func checkFromGoroutines(t *testing.T, count int, result func(int) string) {
	t.Helper()
	var want []string
	for i := range count {
		want = append(want, result(i))
	}
	var all sync.WaitGroup
	for range 8 {
		all.Go(func() {
			for i, text := range slices.Backward(want) {
				if got := result(i); got != text {
					t.Errorf("result %d: got %s, want %s", i, got, text)
				}
			}
		})
	}
	all.Wait()
}

func TestPromise1RatesFromSeveralGoroutines(t *testing.T) {
	source := rand.New(rand.NewSource(131))
	rates := badRates()[:20]
	for range 100 {
		rates = append(rates, anyRate(source))
	}
	list := segments(24, 100, 12, 100, 240, -400, 1, 600, 7, 600)
	checkFromGoroutines(t, len(rates), func(i int) string { return rateResults(rates[i], list, 100) })
}
