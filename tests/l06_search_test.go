package tests

import (
	"math/big"
	"math/bits"
	"math/rand"
	"runtime"
	"slices"
	"strings"
	"sync"
	"testing"
	"time"

	"loop.example/g00921/impl"
)

func within(lowDriver, highDriver, lowDriven, highDriven, stages int64) impl.Limits {
	return impl.Limits{LowDriver: lowDriver, HighDriver: highDriver, LowDriven: lowDriven, HighDriven: highDriven, Stages: stages}
}

// textsOf are the texts of trains, separated by commas.
func textsOf(list [][]impl.Pair) string {
	var texts []string
	for _, one := range list {
		texts = append(texts, impl.TrainText(one))
	}
	return strings.Join(texts, ",")
}

func sameFound(a, b impl.Found) bool { return slices.Equal(a.Train, b.Train) && a.Error == b.Error }

func noFound(f impl.Found) bool { return len(f.Train) == 0 && f.Error == impl.Ratio{} }

// numbersOf returns Driver, Driven, Driver, Driven and so on, and their sum.
func numbersOf(list []impl.Pair) ([]int64, int64) {
	var numbers []int64
	sum := int64(0)
	for _, p := range list {
		numbers = append(numbers, p.Driver, p.Driven)
		sum += p.Driver + p.Driven
	}
	return numbers, sum
}

// orderOf returns what CompareTrains should return for two trains.
func orderOf(a, b []impl.Pair) int64 {
	numbersOfA, sumOfA := numbersOf(a)
	numbersOfB, sumOfB := numbersOf(b)
	switch {
	case sumOfA < sumOfB:
		return -1
	case sumOfA > sumOfB:
		return 1
	}
	return int64(slices.Compare(numbersOfA, numbersOfB))
}

// choices returns all lists of count numbers from low to high, none of which is less than the one before it.
func choices(low, high, count int64) [][]int64 {
	if count == 0 {
		return [][]int64{nil}
	}
	var list [][]int64
	for first := low; first <= high; first++ {
		for _, rest := range choices(first, high, count-1) {
			list = append(list, append([]int64{first}, rest...))
		}
	}
	return list
}

// joined returns the canonical train of drivers and driven wheels, both in ascending order.
func joined(drivers, driven []int64) []impl.Pair {
	var list []impl.Pair
	for i := range drivers {
		list = append(list, impl.Pair{Driver: drivers[len(drivers)-1-i], Driven: driven[i]})
	}
	return list
}

func productsOf(lists [][]int64) []int64 {
	var products []int64
	for _, list := range lists {
		products = append(products, productOf(list).Int64())
	}
	return products
}

// compareProducts compares a * b with c * d.
func compareProducts(a, b, c, d int64) int {
	highOfLeft, left := bits.Mul64(uint64(a), uint64(b))
	highOfRight, right := bits.Mul64(uint64(c), uint64(d))
	return slices.Compare([]uint64{highOfLeft, left}, []uint64{highOfRight, right})
}

// tried is what is found by trying all canonical trains within limits.
type tried struct {
	best  []impl.Pair
	exact [][]impl.Pair
	// equal is the number of trains that are as near as the best one; of these, sameTeeth
	// have as many teeth, and opposite are on the other side of the ratio.
	equal, sameTeeth, opposite int
}

// tryAll tries all canonical trains within limits, in no particular order.
func tryAll(r impl.Ratio, x impl.Limits) tried {
	var found tried
	var bestMiss, bestDen int64
	allDrivers, allDriven := choices(x.LowDriver, x.HighDriver, x.Stages), choices(x.LowDriven, x.HighDriven, x.Stages)
	nums, dens := productsOf(allDrivers), productsOf(allDriven)
	var equal [][]impl.Pair
	for i, drivers := range allDrivers {
		for j, driven := range allDriven {
			miss := nums[i]*r.Den - dens[j]*r.Num
			if miss == 0 {
				found.exact = append(found.exact, joined(drivers, driven))
			}
			miss = max(miss, -miss)
			order := -1
			if found.best != nil {
				order = compareProducts(miss, bestDen, bestMiss, dens[j])
			}
			if order < 0 {
				equal = nil
			}
			if order <= 0 {
				equal = append(equal, joined(drivers, driven))
			}
			if order < 0 || order == 0 && orderOf(joined(drivers, driven), found.best) < 0 {
				found.best, bestMiss, bestDen = joined(drivers, driven), miss, dens[j]
			}
		}
	}
	slices.SortFunc(found.exact, func(a, b []impl.Pair) int { return int(orderOf(a, b)) })
	found.count(r, equal)
	return found
}

func (f *tried) count(r impl.Ratio, equal [][]impl.Pair) {
	_, teeth := numbersOf(f.best)
	for _, list := range equal {
		if slices.Equal(list, f.best) {
			continue
		}
		f.equal++
		if _, others := numbersOf(list); others == teeth {
			f.sameTeeth++
		}
		if signOf(list, r) != signOf(f.best, r) {
			f.opposite++
		}
	}
}

// signOf tells on which side of r the ratio of a train is.
func signOf(list []impl.Pair, r impl.Ratio) int { return valueOfTrain(list).Cmp(bigOf(r)) }

// valueOfTrain returns the turns of the last arbor, whichever way it turns.
func valueOfTrain(list []impl.Pair) *big.Rat {
	product, _ := productOfPairs(list)
	return product.Abs(product)
}

// expectError returns what ErrorOf should return for a train and a valid ratio.
func expectError(list []impl.Pair, r impl.Ratio) (impl.Ratio, int64) {
	if _, allValid := productOfPairs(list); !allValid {
		return impl.Ratio{}, impl.ErrRange
	}
	difference := valueOfTrain(list)
	difference.Sub(difference, bigOf(r))
	want, ok := exactly(difference.Abs(difference))
	if !ok {
		return impl.Ratio{}, impl.ErrRange
	}
	return want, impl.OK
}

func TestPromise6LimitsOfSearches(t *testing.T) {
	if impl.MaxAsk != 1000000 || impl.MaxTooth != 120 || impl.MaxSpan != 30 || impl.MaxDepth != 3 || impl.MaxTrains != 40 {
		t.Errorf("MaxAsk, MaxTooth, MaxSpan, MaxDepth, MaxTrains: got %d %d %d %d %d", impl.MaxAsk, impl.MaxTooth, impl.MaxSpan, impl.MaxDepth, impl.MaxTrains)
	}
	good := within(30, 36, 8, 12, 2)
	numbers := []int64{least, least + 1, -120, -36, -8, -1, 0, 1, 2, 3, 4, 5, 6, 7, 8, 30, 35, 36, 37, 38, 60, 89, 90, 91, 119, 120, 121, 150, 240, 1 << 32, 1<<32 + 30, greatest - 1, greatest}
	for _, low := range numbers {
		for _, high := range numbers {
			want := low >= 6 && low <= high && high <= 120 && high <= low+30
			drivers, driven := good, good
			drivers.LowDriver, drivers.HighDriver = low, high
			driven.LowDriven, driven.HighDriven = low, high
			for _, x := range []impl.Limits{drivers, driven, within(low, high, low, high, 1)} {
				if got := impl.ValidLimits(x); got != want {
					t.Errorf("ValidLimits(%v): got %t, want %t", x, got, want)
				}
			}
		}
	}
	for _, stages := range append(numbers, -3, -2) {
		x := good
		x.Stages = stages
		if got, want := impl.ValidLimits(x), stages >= 1 && stages <= 3; got != want {
			t.Errorf("ValidLimits(%v): got %t, want %t", x, got, want)
		}
	}
}

// goodLimits are valid limits, some of them with the least and the greatest numbers.
func goodLimits() []impl.Limits {
	return []impl.Limits{
		within(30, 36, 8, 12, 2), within(6, 40-4, 6, 6, 1), within(6, 6, 6, 6, 1), within(6, 6, 6, 6, 3), within(6, 36, 6, 36, 1), within(90, 120, 90, 120, 1), within(120, 120, 120, 120, 3), within(120, 120, 6, 6, 2),
		within(6, 6, 120, 120, 3), within(20, 40, 8, 12, 1), within(6, 10, 6, 10, 2), within(6, 9, 6, 9, 3), within(60, 70, 7, 10, 2), within(60, 60, 6, 36, 2), within(6, 36, 60, 60, 2), within(20, 30, 110, 120, 2), within(100, 106, 110, 120, 2),
	}
}

// badLimits are limits that are not valid.
func badLimits() []impl.Limits {
	return []impl.Limits{
		{}, within(5, 10, 6, 10, 1), within(6, 10, 5, 10, 1), within(5, 5, 6, 10, 1), within(6, 10, 5, 5, 1), within(100, 121, 6, 10, 1), within(6, 10, 100, 121, 1), within(121, 121, 6, 10, 1), within(6, 10, 121, 121, 1),
		within(11, 10, 6, 10, 1), within(6, 10, 11, 10, 1), within(10, 6, 10, 6, 1), within(6, 37, 6, 10, 1), within(6, 10, 6, 37, 1), within(89, 120, 6, 10, 1), within(6, 10, 89, 120, 1), within(6, 10, 6, 10, 0),
		within(6, 10, 6, 10, 4), within(6, 10, 6, 10, -1), within(6, 10, 6, 10, least), within(6, 10, 6, 10, greatest), within(least, greatest, 6, 10, 1), within(6, 10, least, greatest, 1), within(least, 10, 6, 10, 1),
		within(6, greatest, 6, 10, 1), within(6, 10, least, 10, 1), within(6, 10, 6, greatest, 1), within(greatest, least, 6, 10, 1), within(6, 10, greatest, least, 1), within(-10, -6, 6, 10, 1), within(0, 0, 0, 0, 0), within(6, 120, 6, 120, 3),
	}
}

func TestPromise6WithinLimits(t *testing.T) {
	x := within(30, 36, 8, 12, 2)
	for _, list := range [][]impl.Pair{train(30, 8, 36, 12), train(36, 12, 30, 8), train(33, 10, 33, 10), train(30, 12, 36, 8), train(36, 8, 36, 8), train(30, 8, 30, 8), train(36, 12, 36, 12), train(30, 12, 31, 11)} {
		if !impl.WithinLimits(list, x) {
			t.Errorf("WithinLimits(%v, %v): got false, want true", list, x)
		}
	}
	for _, list := range [][]impl.Pair{
		nil, {}, train(30, 8), train(36, 12), train(30, 8, 30, 8, 30, 8), slices.Repeat(train(30, 8), 4), train(29, 8, 30, 8), train(30, 8, 29, 8), train(37, 8, 30, 8), train(30, 8, 37, 8), train(30, 7, 30, 8), train(30, 8, 30, 7), train(30, 13, 30, 8),
		train(30, 8, 30, 13), train(8, 30, 8, 30), train(30, 8, 0, 0), train(0, 0, 0, 0), train(30, 8, 30, 5), train(241, 8, 30, 8), train(-30, 8, -30, 8), train(30, 8, least, 8), train(30, greatest, 30, 8), slices.Repeat(train(30, 8), 6),
	} {
		if impl.WithinLimits(list, x) {
			t.Errorf("WithinLimits(%v, %v): got true, want false", list, x)
		}
	}
	// Limits that are not valid have no trains within them, not even those in their ranges.
	for _, bad := range badLimits() {
		lists := [][]impl.Pair{nil, train(6, 6), train(10, 10), train(bad.LowDriver, bad.LowDriven), train(bad.HighDriver, bad.HighDriven)}
		if bad.Stages >= 0 && bad.Stages < 5 {
			lists = append(lists, slices.Repeat(train(bad.LowDriver, bad.LowDriven), int(bad.Stages)), slices.Repeat(train(8, 8), int(bad.Stages)))
		}
		for _, list := range lists {
			if impl.WithinLimits(list, bad) {
				t.Errorf("WithinLimits(%v, %v): got true, want false", list, bad)
			}
		}
	}
}

func TestPromise6EachWheelIsWithinLimits(t *testing.T) {
	for _, x := range goodLimits() {
		for length := range 6 {
			list := slices.Repeat(train(x.LowDriver, x.HighDriven), length)
			if got := impl.WithinLimits(list, x); got != (int64(length) == x.Stages) {
				t.Errorf("WithinLimits(%v, %v): got %t", list, x, got)
			}
		}
		for place := range x.Stages {
			for teeth := int64(0); teeth <= 130; teeth++ {
				one, two := slices.Repeat(train(x.HighDriver, x.LowDriven), int(x.Stages)), slices.Repeat(train(x.HighDriver, x.LowDriven), int(x.Stages))
				one[place].Driver, two[place].Driven = teeth, teeth
				if got, want := impl.WithinLimits(one, x), teeth >= x.LowDriver && teeth <= x.HighDriver; got != want {
					t.Errorf("WithinLimits(%v, %v): got %t, want %t", one, x, got, want)
				}
				if got, want := impl.WithinLimits(two, x), teeth >= x.LowDriven && teeth <= x.HighDriven; got != want {
					t.Errorf("WithinLimits(%v, %v): got %t, want %t", two, x, got, want)
				}
			}
		}
	}
}

func TestPromise6CompareTrains(t *testing.T) {
	cases := []struct {
		a, b []impl.Pair
		want int64
	}{
		{nil, nil, 0}, {nil, train(), 0}, {train(), nil, 0}, {nil, train(6, 6), -1}, {train(240, 240), nil, 1}, {train(30, 8), train(30, 8), 0},
		{train(30, 8), train(30, 9), -1}, {train(31, 8), train(30, 9), 1}, {train(30, 9), train(31, 8), -1}, {train(30, 9), train(29, 9), 1}, {train(8, 30), train(30, 8), -1}, {train(100, 6), train(6, 101), -1},
		// As many teeth, and a difference in the first, a middle or the last number.
		{train(30, 8, 30, 9), train(30, 8, 31, 8), -1}, {train(30, 8, 31, 8), train(30, 8, 30, 9), 1}, {train(30, 9, 30, 8), train(30, 8, 30, 9), 1}, {train(30, 8, 30, 9), train(30, 9, 30, 8), -1}, {train(31, 8, 30, 8), train(30, 8, 31, 8), 1},
		{train(60, 10, 60, 10, 60, 10), train(60, 10, 60, 10, 61, 9), -1}, {train(60, 10, 60, 10, 60, 11), train(60, 10, 60, 10, 60, 10), 1}, {train(60, 10, 60, 9, 60, 11), train(60, 10, 60, 10, 60, 10), -1}, {train(60, 8, 31, 8), train(60, 9, 30, 8), -1},
		// One begins the other one, or has fewer pairs.
		{train(64, 8), train(64, 8, 60, 8), -1}, {train(64, 8, 60, 8), train(64, 8), 1}, {train(100, 100), train(6, 6, 6, 6), 1}, {train(30, 30), train(15, 15, 15, 15), 1}, {train(15, 45), train(15, 15, 15, 15), 1}, {train(15, 15, 15, 15), train(15, 45), -1},
		{train(14, 46), train(15, 15, 15, 15), -1}, {train(6, 54), train(6, 6, 42, 6), 1}, {slices.Repeat(train(6, 6), 5), train(31, 29), -1}, {slices.Repeat(train(6, 6), 5), train(6, 54), -1}, {slices.Repeat(train(240, 240), 5), slices.Repeat(train(240, 240), 5), 0},
		{slices.Repeat(train(240, 240), 5), slices.Repeat(train(240, 240), 4), 1}, {beyond(), beyond(), 0}, {beyond(), train(239, 7, 239, 7, 239, 7, 239, 7, 239, 7), -1},
	}
	for _, c := range cases {
		if got := impl.CompareTrains(c.a, c.b); got != c.want {
			t.Errorf("CompareTrains(%v, %v): got %d, want %d", c.a, c.b, got, c.want)
		}
	}
	for _, bad := range notTrains() {
		for _, other := range [][]impl.Pair{nil, train(6, 6), slices.Repeat(train(240, 240), 5), bad, train(5, 5)} {
			if got, back := impl.CompareTrains(bad, other), impl.CompareTrains(other, bad); got != 0 || back != 0 {
				t.Errorf("CompareTrains of %v and %v: got %d and %d, want 0", bad, other, got, back)
			}
		}
	}
}

func TestPromise6TrainsAreOrderedByTheirTeeth(t *testing.T) {
	source := rand.New(rand.NewSource(14))
	lists := manyTrains()[:250]
	for range 250 {
		var list []impl.Pair
		for range source.Intn(4) {
			list = append(list, impl.Pair{Driver: 6 + source.Int63n(3), Driven: 6 + source.Int63n(3)})
		}
		lists = append(lists, list)
	}
	counts := map[int64]int{}
	for _, a := range lists {
		for _, b := range lists {
			want := orderOf(a, b)
			if got := impl.CompareTrains(a, b); got != want {
				t.Errorf("CompareTrains(%v, %v): got %d, want %d", a, b, got, want)
			}
			if len(a) > 0 && !slices.Equal(a, b) {
				_, sumOfA := numbersOf(a)
				if _, sumOfB := numbersOf(b); sumOfA == sumOfB {
					counts[want]++
				}
			}
		}
	}
	if counts[-1] < 500 || counts[1] < 500 {
		t.Errorf("different trains with as many teeth that were compared: %v", counts)
	}
}

func TestPromise6ErrorOf(t *testing.T) {
	cases := []struct {
		list []impl.Pair
		r    impl.Ratio
		want impl.Ratio
		code int64
	}{
		{train(29, 12), over(5, 2), over(1, 12), impl.OK}, {train(31, 12), over(5, 2), over(1, 12), impl.OK}, {train(30, 12), over(5, 2), over(0, 1), impl.OK}, {train(30, 12), over(-5, 2), over(5, 1), impl.OK},
		{train(64, 8, 60, 8), over(60, 1), over(0, 1), impl.OK}, {train(64, 8, 60, 8), over(-60, 1), over(120, 1), impl.OK}, {train(64, 8, 60, 8), over(0, 1), over(60, 1), impl.OK}, {train(64, 8, 60, 8), over(61, 1), over(1, 1), impl.OK},
		{nil, over(1, 1), over(0, 1), impl.OK}, {train(), over(3, 2), over(1, 2), impl.OK}, {nil, over(-1, 1), over(2, 1), impl.OK}, {train(30, 12), over(0, 1), over(5, 2), impl.OK}, {train(60, 7), over(60, 7), over(0, 1), impl.OK},
		// Ratios and differences at and beyond the limits of terms.
		{train(60, 60), over(-most+1, 1), over(most, 1), impl.OK}, {train(60, 60), over(-most, 1), impl.Ratio{}, impl.ErrRange}, {train(60, 60), over(most, 1), over(most-1, 1), impl.OK}, {train(60, 60), over(1, most), over(most-1, most), impl.OK},
		{train(60, 60), over(-1, most), impl.Ratio{}, impl.ErrRange}, {train(60, 7), over(1, 999999937), impl.Ratio{}, impl.ErrRange}, {train(60, 7), over(1, 142857142), impl.Ratio{}, impl.ErrRange}, {train(6, 10), over(1, most), over(599999999, most), impl.OK},
		{train(60, 7), over(1, 142857143), impl.Ratio{}, impl.ErrRange}, {train(6, 120), over(1, most), over(49999999, most), impl.OK}, {beyond(), over(1, 1), impl.Ratio{}, impl.ErrRange}, {beyond(), over(0, 1), impl.Ratio{}, impl.ErrRange},
		{slices.Repeat(train(239, 7), 4), over(239, 7), impl.Ratio{}, impl.ErrRange}, {slices.Repeat(train(239, 7), 3), over(13651919, 343), over(0, 1), impl.OK}, {slices.Repeat(train(240, 6), 5), over(102400000, 1), over(0, 1), impl.OK},
	}
	for _, c := range cases {
		if got, code := impl.ErrorOf(c.list, c.r); got != c.want || code != c.code {
			t.Errorf("ErrorOf(%v, %v): got %v %d, want %v %d", c.list, c.r, got, code, c.want, c.code)
		}
	}
	codes := map[int64]int{}
	for _, list := range manyTrains()[:200] {
		for _, r := range append(validRatios(), smallRatios(4)...) {
			want, wantCode := expectError(list, r)
			codes[wantCode]++
			if got, code := impl.ErrorOf(list, r); got != want || code != wantCode {
				t.Errorf("ErrorOf(%v, %v): got %v %d, want %v %d", list, r, got, code, want, wantCode)
			}
		}
	}
	if codes[impl.OK] < 3000 || codes[impl.ErrRange] < 3000 {
		t.Errorf("errors that were tried: %v", codes)
	}
}

func TestPromise6ErrorsOfInvalidTrainsAndRatios(t *testing.T) {
	check := func(list []impl.Pair, r impl.Ratio) {
		t.Helper()
		if got, code := impl.ErrorOf(list, r); got != (impl.Ratio{}) || code != impl.ErrInvalid {
			t.Errorf("ErrorOf(%v, %v): got %v %d, want ErrInvalid", list, r, got, code)
		}
		for _, turns := range []int64{0, 1, 10, impl.MaxAsk, impl.MaxAsk + 1, -1, least, greatest} {
			if got, code := impl.DriftOf(list, r, turns); got != 0 || code != impl.ErrInvalid {
				t.Errorf("DriftOf(%v, %v, %d): got %d %d, want ErrInvalid", list, r, turns, got, code)
			}
		}
	}
	for _, list := range notTrains() {
		for _, r := range []impl.Ratio{over(5, 2), over(0, 1), over(-most, 1), over(1, most), over(1, 0)} {
			check(list, r)
		}
	}
	// ErrInvalid also comes before the ErrRange of a train whose ratio is not told.
	for _, r := range invalidRatios() {
		for _, list := range [][]impl.Pair{nil, train(30, 12), train(64, 8, 60, 8), beyond(), train(5, 5)} {
			check(list, r)
		}
	}
}

type exactCase struct {
	r    impl.Ratio
	x    impl.Limits
	want string
}

func TestPromise6ExactTrains(t *testing.T) {
	cases := []exactCase{
		{over(5, 2), within(20, 40, 8, 12, 1), "20:8,25:10,30:12"}, {over(12, 1), within(30, 30, 6, 6, 2), ""}, {over(25, 1), within(30, 30, 6, 6, 2), "30:6 30:6"}, {over(1, 1), within(6, 6, 6, 6, 3), "6:6 6:6 6:6"}, {over(1, 1), within(120, 120, 120, 120, 3), "120:120 120:120 120:120"},
		{over(8000, 1), within(120, 120, 6, 6, 3), "120:6 120:6 120:6"}, {over(1, 8000), within(6, 6, 120, 120, 3), "6:120 6:120 6:120"}, {over(8001, 1), within(120, 120, 6, 6, 3), ""}, {over(29, 12), within(20, 40, 8, 12, 1), "29:12"}, {over(41, 12), within(20, 40, 8, 12, 1), ""},
		{over(29, 13), within(20, 40, 8, 12, 1), ""}, {over(1000000, 999999), within(90, 120, 90, 120, 3), "100:91 100:99 100:111"}, {over(1, 1000000), within(6, 36, 90, 120, 3), ""}, {over(1000000, 1), within(90, 120, 6, 36, 3), ""},
		// The same products of drivers, or of driven wheels, with different numbers of teeth and with as many.
		{over(35, 9), within(6, 15, 6, 6, 3), "12:6 10:6 7:6,14:6 10:6 6:6,15:6 8:6 7:6"}, {over(14, 3), within(7, 14, 6, 6, 3), "12:6 12:6 7:6,14:6 9:6 8:6"}, {over(3, 14), within(6, 6, 7, 14, 3), "6:7 6:12 6:12,6:8 6:9 6:14"},
		// All orders of wheels are one canonical train.
		{over(42, 1), within(6, 7, 6, 6, 2), ""}, {over(7, 6), within(6, 7, 6, 6, 2), "7:6 6:6"}, {over(7, 6), within(6, 7, 6, 7, 2), "7:6 6:6,7:6 7:7"}, {over(1, 1), within(6, 7, 6, 7, 2), "6:6 6:6,7:6 6:7,7:7 7:7"},
	}
	for _, c := range cases {
		got, code := impl.ExactTrains(c.r, c.x)
		if textsOf(got) != c.want || code != impl.OK {
			t.Errorf("ExactTrains(%v, %v): got %q %d, want %q", c.r, c.x, textsOf(got), code, c.want)
		}
	}
	got, code := impl.ExactTrains(over(12, 1), within(30, 36, 8, 12, 2))
	if !strings.HasPrefix(textsOf(got), "32:8 30:10,33:8 32:11") || code != impl.OK {
		t.Errorf("ExactTrains of 12: got %q %d", textsOf(got), code)
	}
}

// checkExact compares ExactTrains with all trains, and returns how many are exact.
func checkExact(t *testing.T, r impl.Ratio, x impl.Limits, want [][]impl.Pair) int {
	t.Helper()
	got, code := impl.ExactTrains(r, x)
	if len(want) > impl.MaxTrains {
		if len(got) != 0 || code != impl.ErrFull {
			t.Errorf("ExactTrains(%v, %v): got %d trains, %d, want ErrFull for %d trains", r, x, len(got), code, len(want))
		}
		return len(want)
	}
	if !slices.EqualFunc(got, want, slices.Equal[[]impl.Pair]) || code != impl.OK {
		t.Errorf("ExactTrains(%v, %v): got %q %d, want %q", r, x, textsOf(got), code, textsOf(want))
	}
	for _, list := range got {
		if miss, _ := impl.ErrorOf(list, r); miss != over(0, 1) || !impl.WithinLimits(list, x) {
			t.Errorf("ExactTrains(%v, %v): the train %v has the error %v", r, x, list, miss)
		}
	}
	return len(want)
}

func TestPromise6AsManyExactTrainsAsAllowed(t *testing.T) {
	cases := []struct {
		r    impl.Ratio
		x    impl.Limits
		want int
	}{
		{over(33, 32), within(90, 120, 90, 120, 2), 39}, {over(56, 45), within(90, 120, 90, 120, 2), 40}, {over(49, 45), within(90, 120, 90, 120, 2), 41}, {over(5, 36), within(6, 36, 6, 36, 2), 40}, {over(35, 108), within(6, 36, 6, 36, 2), 41},
		{over(2125, 3), within(60, 90, 6, 12, 3), 40}, {over(819, 1), within(60, 90, 6, 12, 3), 41}, {over(9405, 64), within(30, 60, 6, 20, 3), 40}, {over(3245, 108), within(30, 60, 6, 20, 3), 41}, {over(1, 1), within(6, 36, 6, 36, 1), 31},
	}
	for _, c := range cases {
		if got := checkExact(t, c.r, c.x, tryAll(c.r, c.x).exact); got != c.want {
			t.Errorf("exact trains for %v within %v: there are %d, want %d", c.r, c.x, got, c.want)
		}
	}
	for _, x := range []impl.Limits{within(90, 120, 90, 120, 2), within(90, 120, 90, 120, 3), within(6, 36, 6, 36, 3)} {
		if got, code := impl.ExactTrains(over(1, 1), x); len(got) != 0 || code != impl.ErrFull {
			t.Errorf("ExactTrains of 1 within %v: got %d trains, %d, want ErrFull", x, len(got), code)
		}
	}
}

func TestPromise6BestTrain(t *testing.T) {
	cases := []struct {
		r    impl.Ratio
		x    impl.Limits
		want string
	}{
		{over(12, 1), within(30, 36, 8, 12, 2), "32:8 30:10 0"}, {over(29, 12), within(20, 40, 8, 12, 1), "29:12 0"}, {over(5, 2), within(20, 40, 8, 12, 1), "20:8 0"}, {over(1, 1), within(90, 120, 90, 120, 3), "90:90 90:90 90:90 0"},
		// All trains are too fast, or too slow.
		{over(1, 1), within(30, 36, 8, 12, 1), "30:12 3/2"}, {over(10, 1), within(30, 36, 8, 12, 1), "36:8 11/2"}, {over(1, 1), within(6, 6, 8, 12, 2), "6:8 6:8 7/16"}, {over(1000000, 1), within(90, 120, 90, 120, 3), "120:90 120:90 120:90 26999936/27"},
		{over(1, 1000000), within(90, 120, 90, 120, 2), "90:120 90:120 562499/1000000"}, {over(1000000, 1), within(6, 6, 6, 6, 3), "6:6 6:6 6:6 999999"}, {over(1, 1000000), within(6, 6, 6, 6, 1), "6:6 999999/1000000"}, {over(1000000, 999999), within(6, 36, 6, 36, 1), "6:6 1/999999"},
		{over(999999, 1000000), within(120, 120, 90, 120, 2), "120:120 120:120 1/1000000"}, {over(1000000, 1), within(6, 6, 10, 10, 3), "6:10 6:10 6:10 124999973/125"},
		// Equally near trains with the same ratio: the one with fewer teeth, and then the lesser one.
		{over(65, 17), within(20, 24, 8, 12, 2), "21:10 20:11 1/187"}, {over(13, 3), within(20, 24, 8, 12, 2), "24:10 20:11 1/33"}, {over(69, 5), within(30, 36, 8, 12, 2), "32:8 31:9 1/45"}, {over(77, 19), within(20, 40, 8, 12, 1), "32:8 1/19"}, {over(79, 20), within(20, 40, 8, 12, 1), "32:8 1/20"},
		{over(14, 3), within(7, 14, 6, 6, 3), "12:6 12:6 7:6 0"}, {over(467, 100), within(7, 14, 6, 6, 3), "12:6 12:6 7:6 1/300"}, {over(3, 14), within(6, 6, 7, 14, 3), "6:7 6:12 6:12 0"}, {over(35, 9), within(6, 15, 6, 6, 3), "12:6 10:6 7:6 0"},
		// One too fast and one too slow by the same error; the slow one has fewer teeth.
		{over(59, 24), within(29, 30, 12, 12, 1), "29:12 1/24"}, {over(117, 20), within(20, 24, 8, 12, 2), "21:8 20:9 1/60"}, {over(32, 15), within(20, 40, 8, 12, 1), "21:10 1/30"}, {over(51, 16), within(6, 9, 6, 9, 3), "9:6 9:6 8:6 3/16"},
		// The fast one has fewer teeth.
		{over(13, 14), within(6, 6, 6, 7, 1), "6:6 1/14"}, {over(139, 20), within(20, 24, 8, 12, 2), "24:8 21:9 1/20"}, {over(37, 14), within(6, 12, 6, 12, 2), "12:6 8:6 1/42"},
		// Both have as many teeth.
		{over(101, 16), within(20, 24, 8, 12, 2), "23:8 22:10 1/80"}, {over(23, 12), within(6, 10, 6, 10, 2), "9:6 9:7 1/84"}, {over(317, 8), within(60, 70, 7, 10, 2), "65:10 61:10 1/40"}, {over(781, 20), within(60, 70, 7, 10, 2), "63:10 62:10 1/100"},
	}
	for _, c := range cases {
		got, code := impl.BestTrain(c.r, c.x)
		if impl.FoundText(got) != c.want || code != impl.OK {
			t.Errorf("BestTrain(%v, %v): got %v %d, want %q", c.r, c.x, got, code, c.want)
		}
	}
}

// checkBest compares BestTrain with all trains.
func checkBest(t *testing.T, r impl.Ratio, x impl.Limits, best []impl.Pair) int64 {
	t.Helper()
	miss, wantCode := expectError(best, r)
	want := impl.Found{Train: best, Error: miss}
	if wantCode != impl.OK {
		want = impl.Found{}
	}
	if got, code := impl.BestTrain(r, x); !sameFound(got, want) || code != wantCode {
		t.Errorf("BestTrain(%v, %v): got %v %d, want %v %d", r, x, got, code, want, wantCode)
	}
	return wantCode
}

// askedRatios are positive ratios, some of them those of trains within x, halfway between two of them, or with great terms.
func askedRatios(x impl.Limits, source *rand.Rand) []impl.Ratio {
	list := []impl.Ratio{over(1, 1), over(1000000, 1), over(1, 1000000), over(1000000, 999999), over(999999, 1000000)}
	values := someValues(x, source)
	for i, value := range values {
		next := values[min(i+1, len(values)-1)]
		middle := new(big.Rat).Add(value, next)
		den := new(big.Rat).Add(value, big.NewRat(2, 1))
		den.SetInt64(floorOf(den.Quo(big.NewRat(impl.MaxAsk, 1), den)) | 1)
		great := big.NewRat(floorOf(new(big.Rat).Mul(value, den))+1, den.Num().Int64())
		for _, asked := range []*big.Rat{value, middle.Mul(middle, big.NewRat(1, 2)), great} {
			if r, ok := exactly(asked); ok && r.Num <= impl.MaxAsk && r.Den <= impl.MaxAsk {
				list = append(list, r)
			}
		}
	}
	return list
}

// someValues returns up to 12 ratios of trains within x that are next to each other, in ascending order; if there are many trains, only some of them are looked at.
func someValues(x impl.Limits, source *rand.Rand) []*big.Rat {
	var values []*big.Rat
	allDrivers, allDriven := choices(x.LowDriver, x.HighDriver, x.Stages), choices(x.LowDriven, x.HighDriven, x.Stages)
	for _, drivers := range allDrivers[:min(len(allDrivers), 60)] {
		for _, driven := range allDriven[:min(len(allDriven), 60)] {
			values = append(values, new(big.Rat).SetFrac(productOf(drivers), productOf(driven)))
		}
	}
	slices.SortFunc(values, (*big.Rat).Cmp)
	values = slices.CompactFunc(values, func(a, b *big.Rat) bool { return a.Cmp(b) == 0 })
	first := source.Intn(max(1, len(values)-12))
	return values[first:min(len(values), first+12)]
}

func TestPromise6NoTrainIsNearer(t *testing.T) {
	source := rand.New(rand.NewSource(15))
	var sum tried
	exact, codes := 0, map[int64]int{}
	limits := append(goodLimits(), within(20, 24, 8, 12, 2), within(30, 36, 8, 12, 3), within(6, 12, 6, 12, 2), within(20, 30, 20, 30, 2), within(7, 14, 7, 12, 3), within(110, 120, 100, 106, 2), within(6, 20, 40, 60, 2), within(40, 46, 90, 94, 3))
	for _, x := range limits {
		for _, r := range askedRatios(x, source) {
			found := tryAll(r, x)
			codes[checkBest(t, r, x, found.best)]++
			if checkExact(t, r, x, found.exact) > 0 {
				exact++
				continue
			}
			sum.equal += min(found.equal, 1)
			sum.sameTeeth += min(found.sameTeeth, 1)
			sum.opposite += min(found.opposite, 1)
		}
	}
	if exact < 60 || codes[impl.OK] < 300 || codes[impl.ErrRange] < 20 {
		t.Errorf("searches that were tried: %d with exact trains, codes %v", exact, codes)
	}
	if sum.equal < 60 || sum.sameTeeth < 15 || sum.opposite < 20 {
		t.Errorf("searches with equally near trains that are not exact: %+v", sum)
	}
}

func TestPromise6NoTrainIsNearerInTheWidestLimits(t *testing.T) {
	for _, c := range []struct {
		r impl.Ratio
		x impl.Limits
	}{
		{over(1461, 1460), within(90, 120, 90, 120, 3)}, {over(999983, 999979), within(90, 120, 90, 120, 3)}, {over(1000000, 1), within(90, 120, 6, 36, 3)}, {over(1, 1000000), within(6, 36, 90, 120, 3)},
		{over(62, 21), within(60, 90, 20, 50, 3)}, {over(27321, 1000), within(60, 90, 6, 36, 3)}, {over(949, 48), within(50, 80, 6, 36, 3)},
	} {
		found := tryAll(c.r, c.x)
		checkBest(t, c.r, c.x, found.best)
		checkExact(t, c.r, c.x, found.exact)
	}
}

func TestPromise6FoundTrainsAreCanonical(t *testing.T) {
	source := rand.New(rand.NewSource(16))
	searched := 0
	for range 150 {
		low, other := 6+source.Int63n(85), 6+source.Int63n(85)
		x := within(low, low+source.Int63n(31), other, other+source.Int63n(31), 1+source.Int63n(3))
		r, ok := exactly(big.NewRat(1+source.Int63n(1000)*low, 1+source.Int63n(1000)*other))
		if !ok {
			continue
		}
		got, code := impl.BestTrain(r, x)
		if code != impl.OK {
			continue
		}
		searched++
		miss, missCode := impl.ErrorOf(got.Train, r)
		canon, _ := impl.CanonTrain(got.Train)
		if !impl.WithinLimits(got.Train, x) || !slices.Equal(canon, got.Train) || miss != got.Error || missCode != impl.OK {
			t.Errorf("BestTrain(%v, %v): got %v, with the error %v and the canonical train %v", r, x, got, miss, canon)
		}
		if exact, exactCode := impl.ExactTrains(r, x); exactCode == impl.OK && (len(exact) > 0) != (got.Error.Num == 0) {
			t.Errorf("BestTrain(%v, %v): got %v, but the exact trains are %q", r, x, got, textsOf(exact))
		}
	}
	if searched < 50 {
		t.Errorf("only %d searches had a result", searched)
	}
}

func TestPromise6ErrorsThatAreNoRatios(t *testing.T) {
	cases := []struct {
		r    impl.Ratio
		x    impl.Limits
		code int64
	}{
		// The greatest terms of errors, and the next greater ones that are there.
		{over(1000000, 1), within(6, 6, 10, 10, 3), impl.OK}, {over(1000000, 1), within(7, 7, 10, 10, 3), impl.OK}, {over(1000000, 1), within(6, 6, 11, 11, 3), impl.ErrRange}, {over(1, 1000000), within(7, 7, 10, 10, 3), impl.OK},
		{over(1, 1000000), within(7, 7, 11, 11, 2), impl.OK}, {over(1, 1000000), within(7, 7, 11, 11, 3), impl.ErrRange}, {over(1, 999983), within(7, 7, 31, 31, 2), impl.OK}, {over(1, 999983), within(7, 7, 32, 32, 2), impl.ErrRange},
		{over(999983, 999979), within(90, 120, 90, 120, 1), impl.OK}, {over(1, 999983), within(119, 119, 31, 31, 2), impl.ErrRange},
	}
	for _, c := range cases {
		if code := checkBest(t, c.r, c.x, tryAll(c.r, c.x).best); code != c.code {
			t.Errorf("the error for %v within %v has the code %d, want %d", c.r, c.x, code, c.code)
		}
		if _, code := impl.ExactTrains(c.r, c.x); code != impl.OK {
			t.Errorf("ExactTrains(%v, %v): got %d, want OK", c.r, c.x, code)
		}
	}
}

func TestPromise6BestTrains(t *testing.T) {
	for stages, want := range []string{"", "36:8 15/2", "36:8 15/2,32:8 30:10 0", "36:8 15/2,32:8 30:10 0,30:12 30:12 30:12 29/8"} {
		var texts []string
		got, code := impl.BestTrains(over(12, 1), within(30, 36, 8, 12, int64(stages)))
		for _, f := range got {
			texts = append(texts, impl.FoundText(f))
		}
		if s := strings.Join(texts, ","); s != want || (code == impl.OK) != (stages > 0) {
			t.Errorf("BestTrains of 12 in %d stages: got %q %d, want %q", stages, s, code, want)
		}
	}
	source := rand.New(rand.NewSource(17))
	codes := map[int64]int{}
	for _, x := range goodLimits() {
		for _, r := range askedRatios(x, source) {
			var want []impl.Found
			wantCode := int64(impl.OK)
			for stages := int64(1); stages <= x.Stages; stages++ {
				fewer := x
				fewer.Stages = stages
				f, code := impl.BestTrain(r, fewer)
				want, wantCode = append(want, f), max(wantCode, code)
			}
			codes[wantCode]++
			if wantCode != impl.OK {
				want = nil
			}
			if got, code := impl.BestTrains(r, x); !slices.EqualFunc(got, want, sameFound) || code != wantCode {
				t.Errorf("BestTrains(%v, %v): got %v %d, want %v %d", r, x, got, code, want, wantCode)
			}
		}
	}
	if codes[impl.OK] < 100 || codes[impl.ErrRange] < 10 {
		t.Errorf("searches that were tried: %v", codes)
	}
}

func TestPromise6BestTrainsFailIfOneDoes(t *testing.T) {
	// Exact in three stages, and with a valid error in one stage, but not in two.
	r := over(360696, 260075)
	for stages, want := range []int64{impl.ErrInvalid, impl.OK, impl.ErrRange, impl.OK} {
		x := within(90, 114, 90, 114, int64(stages))
		if _, code := impl.BestTrain(r, x); code != want {
			t.Errorf("BestTrain(%v, %v): got %d, want %d", r, x, code, want)
		}
		got, code := impl.BestTrains(r, x)
		if all := []int64{impl.ErrInvalid, impl.OK, impl.ErrRange, impl.ErrRange}[stages]; code != all || len(got) != 0 && code != impl.OK {
			t.Errorf("BestTrains(%v, %v): got %v %d, want %d", r, x, got, code, all)
		}
	}
}

// checkSearches checks that all searches return a code and nothing else.
func checkSearches(t *testing.T, r impl.Ratio, x impl.Limits, want int64) {
	t.Helper()
	if got, code := impl.ExactTrains(r, x); len(got) != 0 || code != want {
		t.Errorf("ExactTrains(%v, %v): got %v %d, want %d", r, x, got, code, want)
	}
	if got, code := impl.BestTrain(r, x); !noFound(got) || code != want {
		t.Errorf("BestTrain(%v, %v): got %v %d, want %d", r, x, got, code, want)
	}
	if got, code := impl.BestTrains(r, x); len(got) != 0 || code != want {
		t.Errorf("BestTrains(%v, %v): got %v %d, want %d", r, x, got, code, want)
	}
}

func TestPromise6InvalidSearches(t *testing.T) {
	outOfRange := []impl.Ratio{
		over(0, 1), over(-1, 1), over(-5, 2), over(-1000000, 1), over(-1, 1000000), over(-most, 1), over(1000001, 1), over(1, 1000001), over(1000001, 1000000), over(1000000, 1000001), over(most, 1), over(1, most), over(most-1, most), over(-1000001, 1), over(-1, 1000001),
	}
	for _, x := range badLimits() {
		for _, r := range append([]impl.Ratio{over(1, 1), over(5, 2), over(1, 0), over(2, 2)}, outOfRange...) {
			checkSearches(t, r, x, impl.ErrInvalid)
		}
	}
	for _, x := range append(goodLimits(), within(90, 120, 90, 120, 3)) {
		for _, r := range invalidRatios() {
			checkSearches(t, r, x, impl.ErrInvalid)
		}
		for _, r := range outOfRange {
			checkSearches(t, r, x, impl.ErrRange)
		}
	}
	// Their greatest terms are in range.
	for _, r := range []impl.Ratio{over(1000000, 1), over(1, 1000000), over(1000000, 999999), over(999999, 1000000)} {
		x := within(6, 6, 6, 6, 1)
		if got, code := impl.ExactTrains(r, x); len(got) != 0 || code != impl.OK {
			t.Errorf("ExactTrains(%v, %v): got %v %d, want OK", r, x, got, code)
		}
		checkBest(t, r, x, train(6, 6))
		if got, code := impl.BestTrains(r, x); len(got) != 1 || code != impl.OK {
			t.Errorf("BestTrains(%v, %v): got %v %d, want one train", r, x, got, code)
		}
	}
}

func TestPromise6DriftOf(t *testing.T) {
	cases := []struct {
		list  []impl.Pair
		r     impl.Ratio
		turns int64
		want  int64
		code  int64
	}{
		{train(30, 12), over(12, 5), 10, 1000000, impl.OK}, {train(30, 12), over(5, 2), 1000000, 0, impl.OK}, {train(29, 12), over(5, 2), 1, -83333, impl.OK}, {train(29, 12), over(5, 2), 12, -1000000, impl.OK}, {train(31, 12), over(5, 2), 1, 83333, impl.OK},
		{train(31, 12), over(5, 2), 2, 166667, impl.OK}, {train(29, 12), over(5, 2), 2, -166667, impl.OK}, {nil, over(1, 2), 3, 1500000, impl.OK}, {train(), over(1, 1), 5, 0, impl.OK}, {train(64, 8, 60, 8), over(60, 1), 1000000, 0, impl.OK},
		{train(60, 60), over(-1, 2), 2, 3000000, impl.OK}, {train(60, 60), over(0, 1), 1, 1000000, impl.OK}, {train(60, 60), over(1, 1000000), 1, 999999, impl.OK},
		// Halfway between two integers, and next to it.
		{train(60, 60), over(1999999, 2000000), 1, 1, impl.OK}, {train(60, 60), over(2000001, 2000000), 1, 0, impl.OK}, {train(60, 60), over(1999999, 2000000), 3, 2, impl.OK}, {train(60, 60), over(2000001, 2000000), 3, -1, impl.OK},
		{train(60, 60), over(2000001, 2000000), 1000000, -500000, impl.OK}, {train(60, 60), over(2000001, 2000000), 999999, -499999, impl.OK}, {train(60, 60), over(2000000, 2000001), 1, 0, impl.OK}, {train(60, 60), over(2000000, 1999999), 1, -1, impl.OK},
		{train(60, 60), over(1999998, 1999999), 1, 1, impl.OK}, {train(60, 60), over(2000002, 2000001), 1, 0, impl.OK}, {train(60, 60), over(most-1, most), 500, 1, impl.OK}, {train(60, 60), over(most-1, most), 499, 0, impl.OK},
		// Turns.
		{train(30, 12), over(12, 5), 0, 0, impl.OK}, {train(30, 12), over(12, 5), -1, 0, impl.ErrRange}, {train(30, 12), over(5, 2), 1000001, 0, impl.ErrRange}, {train(30, 12), over(5, 2), least, 0, impl.ErrRange}, {train(30, 12), over(5, 2), greatest, 0, impl.ErrRange},
		{nil, over(1, 1), -1, 0, impl.ErrRange}, {nil, over(1, 1), 1000001, 0, impl.ErrRange}, {train(60, 60), over(999, 1000), 1000000, most, impl.OK}, {train(60, 60), over(1001, 1000), 1000000, -most, impl.OK}, {train(60, 60), over(998, 1000), 1000000, 0, impl.ErrInvalid},
		// Results of MaxTerm, and of more.
		{train(60, 6), over(0, 1), 100, most, impl.OK}, {train(60, 6), over(0, 1), 101, 0, impl.ErrRange}, {train(60, 6), over(20, 1), 100, -most, impl.OK}, {train(60, 6), over(20, 1), 101, 0, impl.ErrRange}, {nil, over(-999, 1), 1, most, impl.OK}, {nil, over(-1000, 1), 1, 0, impl.ErrRange},
		{nil, over(1001, 1), 1, -most, impl.OK}, {nil, over(1002, 1), 1, 0, impl.ErrRange}, {nil, over(-999001, 1000), 1, 0, impl.ErrRange}, {nil, over(-most+1, 1), 1, 0, impl.ErrRange}, {nil, over(-most+1, 1), 0, 0, impl.OK}, {nil, over(most, 1), 1, 0, impl.ErrRange},
		// The ratio of the train, the difference, or turns times it is not a valid ratio.
		{beyond(), over(1, 1), 0, 0, impl.ErrRange}, {beyond(), over(0, 1), 1, 0, impl.ErrRange}, {train(60, 7), over(1, 999999937), 0, 0, impl.ErrRange}, {train(60, 7), over(1, 999999937), 1, 0, impl.ErrRange}, {nil, over(-most, 1), 0, 0, impl.ErrRange},
		{nil, over(-8, 999999929), 1, 1000000, impl.OK}, {nil, over(-8, 999999929), 2, 0, impl.ErrRange}, {nil, over(-8, 999999929), 0, 0, impl.OK}, {nil, over(-8, 999999929), 1000000, 0, impl.ErrRange}, {nil, over(-1, most/2), 1, 1000000, impl.OK}, {nil, over(-1, most/2), 2, 2000000, impl.OK}, {nil, over(-1, most/2), 3, 0, impl.ErrRange},
	}
	for _, c := range cases {
		want := c.want
		if c.code != impl.OK {
			want = 0
		}
		if got, code := impl.DriftOf(c.list, c.r, c.turns); got != want || code != c.code {
			t.Errorf("DriftOf(%v, %v, %d): got %d %d, want %d %d", c.list, c.r, c.turns, got, code, want, c.code)
		}
	}
}

// expectDrift returns what DriftOf should return for a train, a valid ratio and turns in range.
func expectDrift(list []impl.Pair, r impl.Ratio, turns int64) (int64, int64) {
	if _, code := expectError(list, r); code != impl.OK {
		return 0, code
	}
	drift := valueOfTrain(list)
	drift.Sub(drift, bigOf(r)).Mul(drift, big.NewRat(turns, 1))
	if _, ok := exactly(drift); !ok {
		return 0, impl.ErrRange
	}
	parts := roundOf(drift.Mul(drift, big.NewRat(1000000, 1)))
	if parts < -most || parts > most {
		return 0, impl.ErrRange
	}
	return parts, impl.OK
}

func TestPromise6DriftsAreRoundedToMillionths(t *testing.T) {
	source := rand.New(rand.NewSource(18))
	codes, signs := map[int64]int{}, map[bool]int{}
	lists := manyTrains()[:300]
	for _, list := range lists {
		for range 30 {
			r := over(0, 1)
			if near, code := expectError(list, r); code == impl.OK {
				value := new(big.Rat).Add(bigOf(near), big.NewRat(source.Int63n(2001)-1000, 1+source.Int63n(4000)*500))
				r, _ = exactly(value)
			}
			if !impl.ValidRatio(r) {
				continue
			}
			turns := source.Int63n(impl.MaxAsk+1) >> source.Intn(20)
			want, wantCode := expectDrift(list, r, turns)
			codes[wantCode]++
			signs[want < 0]++
			if got, code := impl.DriftOf(list, r, turns); got != want || code != wantCode {
				t.Errorf("DriftOf(%v, %v, %d): got %d %d, want %d %d", list, r, turns, got, code, want, wantCode)
			}
		}
	}
	if codes[impl.OK] < 2000 || codes[impl.ErrRange] < 300 || signs[true] < 500 {
		t.Errorf("drifts that were tried: codes %v, negative %v", codes, signs)
	}
}

func TestPromise6FoundText(t *testing.T) {
	for _, c := range []struct {
		f    impl.Found
		want string
	}{
		{impl.Found{Train: train(29, 12), Error: over(0, 1)}, "29:12 0"}, {impl.Found{Train: train(29, 12), Error: over(1, 12)}, "29:12 1/12"}, {impl.Found{Train: train(64, 8, 60, 8), Error: over(3, 1)}, "64:8 60:8 3"}, {impl.Found{Error: over(0, 1)}, "- 0"},
		{impl.Found{Train: train(), Error: over(5, 2)}, "- 5/2"}, {impl.Found{Train: train(240, 6), Error: over(-1, 2)}, "240:6 -1/2"}, {impl.Found{Train: slices.Repeat(train(64, 8), 5), Error: over(most, most-1)}, "64:8 64:8 64:8 64:8 64:8 1000000000/999999999"},
		{impl.Found{Train: beyond(), Error: over(1, 1)}, "239:7 239:7 239:7 239:7 7:239 1"},
		{impl.Found{}, ""}, {impl.Found{Train: train(29, 12)}, ""}, {impl.Found{Train: train(29, 12), Error: over(2, 4)}, ""}, {impl.Found{Train: train(5, 12), Error: over(1, 2)}, ""}, {impl.Found{Train: slices.Repeat(train(64, 8), 6), Error: over(0, 1)}, ""},
	} {
		if got := impl.FoundText(c.f); got != c.want {
			t.Errorf("FoundText(%v): got %q, want %q", c.f, got, c.want)
		}
	}
	for _, list := range notTrains() {
		for _, r := range []impl.Ratio{over(0, 1), over(1, 12), over(1, 0)} {
			if got := impl.FoundText(impl.Found{Train: list, Error: r}); got != "" {
				t.Errorf("FoundText of %v and %v: got %q, want the empty string", list, r, got)
			}
		}
	}
	for _, r := range invalidRatios() {
		for _, list := range [][]impl.Pair{nil, train(29, 12), beyond()} {
			if got := impl.FoundText(impl.Found{Train: list, Error: r}); got != "" {
				t.Errorf("FoundText of %v and %v: got %q, want the empty string", list, r, got)
			}
		}
	}
	for _, list := range manyTrains()[:60] {
		for _, r := range validRatios() {
			if got, want := impl.FoundText(impl.Found{Train: list, Error: r}), impl.TrainText(list)+" "+impl.RatioText(r); got != want {
				t.Errorf("FoundText of %v and %v: got %q, want %q", list, r, got, want)
			}
		}
	}
}

// searchAll returns all trains that the searches for r within x find.
func searchAll(r impl.Ratio, x impl.Limits) [][]impl.Pair {
	list, _ := impl.ExactTrains(r, x)
	best, _ := impl.BestTrain(r, x)
	list = append(list, best.Train)
	all, _ := impl.BestTrains(r, x)
	for _, f := range all {
		list = append(list, f.Train)
	}
	return list
}

func sameTrains(a, b [][]impl.Pair) bool { return slices.EqualFunc(a, b, slices.Equal[[]impl.Pair]) }

func TestPromise1FoundTrainsShareNoMemory(t *testing.T) {
	for _, c := range []exactCase{
		{r: over(12, 1), x: within(30, 36, 8, 12, 2)}, {r: over(56, 45), x: within(90, 120, 90, 120, 2)}, {r: over(2125, 3), x: within(60, 90, 6, 12, 3)}, {r: over(1, 1), x: within(6, 6, 6, 6, 3)}, {r: over(5, 2), x: within(20, 40, 8, 12, 1)}, {r: over(35, 9), x: within(6, 15, 6, 6, 3)},
	} {
		kept := searchAll(c.r, c.x)
		for i := range kept {
			list := searchAll(c.r, c.x)
			clear(list[i][:cap(list[i])])
			list[i] = kept[i]
			if !sameTrains(list, kept) {
				t.Errorf("result %d for %v within %v shares memory with another one", i, c.r, c.x)
			}
		}
		if again := searchAll(c.r, c.x); len(kept) < 2 || !sameTrains(again, kept) {
			t.Errorf("results for %v within %v: got %q after changes, want %q", c.r, c.x, textsOf(again), textsOf(kept))
		}
	}
}

func TestPromise1SearchesDoNotModifyTrains(t *testing.T) {
	for _, list := range append(manyTrains()[:60], notTrains()[:60]...) {
		// A part of a longer list, with spare capacity behind it that is in use.
		whole := append(slices.Clone(list), train(61, 13, 62, 14, 63, 15)...)
		kept := slices.Clone(whole)
		part := whole[:len(list)]
		impl.WithinLimits(part, within(60, 64, 8, 12, 2))
		impl.CompareTrains(part, part)
		impl.CompareTrains(train(6, 6), part)
		impl.ErrorOf(part, over(5, 2))
		impl.DriftOf(part, over(5, 2), 10)
		impl.FoundText(impl.Found{Train: part, Error: over(1, 2)})
		if !slices.Equal(whole, kept) {
			t.Errorf("a function changed its argument %v: %v", kept, whole)
		}
	}
}

func TestPromise1SearchesFromSeveralGoroutines(t *testing.T) {
	before := runtime.NumGoroutine()
	searches := []exactCase{{r: over(12, 1), x: within(30, 36, 8, 12, 2)}, {r: over(49, 45), x: within(90, 120, 90, 120, 2)}, {r: over(2125, 3), x: within(60, 90, 6, 12, 3)}, {r: over(317, 8), x: within(60, 70, 7, 10, 2)}}
	var want [][][]impl.Pair
	for _, c := range searches {
		want = append(want, searchAll(c.r, c.x))
	}
	var all sync.WaitGroup
	for i, c := range searches {
		for range 8 {
			all.Go(func() {
				if got := searchAll(c.r, c.x); !sameTrains(got, want[i]) {
					t.Errorf("results for %v within %v: got %q, want %q", c.r, c.x, textsOf(got), textsOf(want[i]))
				}
			})
		}
	}
	all.Wait()
	// A goroutine that has sent its last value may need a moment to end.
	for wait := 0; runtime.NumGoroutine() > before && wait < 200; wait++ {
		time.Sleep(10 * time.Millisecond)
	}
	if got := runtime.NumGoroutine(); got > before {
		t.Errorf("%d goroutines remain, %d were there before", got, before)
	}
}
