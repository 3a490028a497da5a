package tests

import (
	"fmt"
	"math/big"
	"math/rand"
	"slices"
	"strings"
	"testing"

	"loop.example/g00921/impl"
)

// readings returns those of pairs of an hour and an error.
func readings(numbers ...int64) []impl.Reading {
	list := []impl.Reading{}
	for i := 0; i < len(numbers); i += 2 {
		list = append(list, impl.Reading{Hour: numbers[i], Off: numbers[i+1]})
	}
	return list
}

// hourly returns readings of the hours 0, 1 and so on.
func hourly(offs ...int64) []impl.Reading {
	list := []impl.Reading{}
	for i, off := range offs {
		list = append(list, impl.Reading{Hour: int64(i), Off: off})
	}
	return list
}

// longRecord returns a valid list of count readings, for any count up to MaxReadings.
func longRecord(count int64) []impl.Reading {
	list := []impl.Reading{}
	for i := range count {
		list = append(list, impl.Reading{Hour: 10 * i, Off: 7 * i})
	}
	return list
}

func fit(count, x, y, xx, xy int64) impl.Fit {
	return impl.Fit{Count: count, SumX: x, SumY: y, SumXX: xx, SumXY: xy}
}

func isHour(hour int64) bool { return hour >= 0 && hour <= 10000 }

func areReadings(list []impl.Reading) bool {
	for i, r := range list {
		if !isHour(r.Hour) || r.Off < -100000 || r.Off > 100000 || i > 0 && list[i-1].Hour >= r.Hour {
			return false
		}
	}
	return len(list) <= 60
}

// isWithin reports whether n is 0 to count * most, or -count * most to count * most if it may have a sign.
func isWithin(n, count, most int64, signed bool) bool {
	limit := new(big.Int).Mul(big.NewInt(count), big.NewInt(most))
	return big.NewInt(n).CmpAbs(limit) <= 0 && (signed || n >= 0)
}

func isFit(f impl.Fit) bool {
	return f.Count >= 0 && f.Count <= 60 &&
		isWithin(f.SumX, f.Count, 10000, false) && isWithin(f.SumY, f.Count, 100000, true) && isWithin(f.SumXX, f.Count, 100000000, false) && isWithin(f.SumXY, f.Count, 1000000000, true) &&
		spreadOf(f).Sign() >= 0
}

// spreadOf returns Count * SumXX - SumX * SumX.
func spreadOf(f impl.Fit) *big.Int {
	n := new(big.Int).Mul(big.NewInt(f.Count), big.NewInt(f.SumXX))
	return n.Sub(n, squared(f.SumX))
}

// exactSlope returns the slope of the fitted line of a valid Fit, if there is a line.
func exactSlope(f impl.Fit) *big.Rat {
	n := new(big.Int).Mul(big.NewInt(f.Count), big.NewInt(f.SumXY))
	n.Sub(n, new(big.Int).Mul(big.NewInt(f.SumX), big.NewInt(f.SumY)))
	return new(big.Rat).SetFrac(n, spreadOf(f))
}

// exactOff returns the value of the fitted line: that of the means, and the rise from there.
func exactOff(f impl.Fit, hour int64) *big.Rat {
	from := new(big.Rat).Sub(big.NewRat(hour, 1), big.NewRat(f.SumX, f.Count))
	from.Mul(from, exactSlope(f))
	return from.Add(from, big.NewRat(f.SumY, f.Count))
}

func expectFit(list []impl.Reading) (impl.Fit, int64) {
	if !areReadings(list) {
		return impl.Fit{}, impl.ErrInvalid
	}
	var f impl.Fit
	for _, r := range list {
		f = fit(f.Count+1, f.SumX+r.Hour, f.SumY+r.Off, f.SumXX+r.Hour*r.Hour, f.SumXY+r.Hour*r.Off)
	}
	return f, impl.OK
}

func expectAdded(a, b impl.Fit) (impl.Fit, int64) {
	if !isFit(a) || !isFit(b) {
		return impl.Fit{}, impl.ErrInvalid
	}
	if a.Count+b.Count > 60 {
		return impl.Fit{}, impl.ErrFull
	}
	return fit(a.Count+b.Count, a.SumX+b.SumX, a.SumY+b.SumY, a.SumXX+b.SumXX, a.SumXY+b.SumXY), impl.OK
}

func expectDaily(f impl.Fit) (int64, int64) {
	if !isFit(f) {
		return 0, impl.ErrInvalid
	}
	if spreadOf(f).Sign() == 0 {
		return 0, impl.ErrState
	}
	return roundOf(times(24000, exactSlope(f))), impl.OK
}

func expectOff(f impl.Fit, hour int64) (int64, int64) {
	if !isFit(f) {
		return 0, impl.ErrInvalid
	}
	if spreadOf(f).Sign() == 0 {
		return 0, impl.ErrState
	}
	if !isHour(hour) {
		return 0, impl.ErrRange
	}
	return roundOf(exactOff(f, hour)), impl.OK
}

func expectResiduals(list []impl.Reading) ([]int64, int64) {
	if !areReadings(list) {
		return nil, impl.ErrInvalid
	}
	if len(list) < 2 {
		return nil, impl.ErrState
	}
	f, _ := expectFit(list)
	var residuals []int64
	for _, r := range list {
		residuals = append(residuals, r.Off-roundOf(exactOff(f, r.Hour)))
	}
	return residuals, impl.OK
}

func expectRates(list []impl.Reading) ([]int64, int64) {
	if !areReadings(list) {
		return nil, impl.ErrInvalid
	}
	var rates []int64
	for i, r := range list {
		if i > 0 {
			rates = append(rates, roundOf(times(24000, big.NewRat(r.Off-list[i-1].Off, r.Hour-list[i-1].Hour))))
		}
	}
	return rates, impl.OK
}

func expectJumps(list []impl.Reading, by int64) ([]int64, int64) {
	if !areReadings(list) {
		return nil, impl.ErrInvalid
	}
	if by < 0 || by > 200000 {
		return nil, impl.ErrRange
	}
	var jumps []int64
	for i := 1; i < len(list); i++ {
		if list[i].Off >= list[i-1].Off+by || list[i].Off <= list[i-1].Off-by {
			jumps = append(jumps, int64(i))
		}
	}
	return jumps, impl.OK
}

// expectMedian returns the value that has fewer than half of the others below it, and not more than half above it.
func expectMedian(list []impl.Reading) (int64, int64) {
	if !areReadings(list) {
		return 0, impl.ErrInvalid
	}
	if len(list) == 0 {
		return 0, impl.ErrState
	}
	for _, r := range list {
		below, above := 0, 0
		for _, other := range list {
			if other.Off < r.Off {
				below++
			}
			if other.Off > r.Off {
				above++
			}
		}
		if 2*below < len(list) && 2*above <= len(list) {
			return r.Off, impl.OK
		}
	}
	panic("no value is in the middle")
}

// deviationOf returns the sum of the squared deviations of all values Off from their mean.
func deviationOf(list []impl.Reading) *big.Rat {
	n, sum := int64(len(list)), int64(0)
	for _, r := range list {
		sum += r.Off
	}
	// Each deviation is multiplied by n, so that it is an integer.
	squares := int64(0)
	for _, r := range list {
		squares += (n*r.Off - sum) * (n*r.Off - sum)
	}
	return big.NewRat(squares, n*n)
}

// deviationsOf returns, for each change, the sum of the squared deviations in both parts.
func deviationsOf(list []impl.Reading) []*big.Rat {
	var sums []*big.Rat
	for k := 1; k < len(list); k++ {
		sums = append(sums, new(big.Rat).Add(deviationOf(list[:k]), deviationOf(list[k:])))
	}
	return sums
}

func expectChange(list []impl.Reading) (int64, int64) {
	if !areReadings(list) {
		return 0, impl.ErrInvalid
	}
	if len(list) < 2 {
		return 0, impl.ErrState
	}
	sums := deviationsOf(list)
	best := slices.MinFunc(sums, (*big.Rat).Cmp)
	return int64(slices.IndexFunc(sums, func(sum *big.Rat) bool { return sum.Cmp(best) == 0 })) + 1, impl.OK
}

func checkFitOf(t *testing.T, list []impl.Reading, want impl.Fit, wantCode int64) {
	t.Helper()
	if got, code := impl.FitOf(list); got != want || code != wantCode {
		t.Errorf("FitOf(%v): got %v, code %d, want %v, code %d", list, got, code, want, wantCode)
	}
}

func checkAdded(t *testing.T, a, b, want impl.Fit, wantCode int64) {
	t.Helper()
	if got, code := impl.AddFits(a, b); got != want || code != wantCode {
		t.Errorf("AddFits(%v, %v): got %v, code %d, want %v, code %d", a, b, got, code, want, wantCode)
	}
}

func checkDaily(t *testing.T, f impl.Fit, want, wantCode int64) {
	t.Helper()
	if got, code := impl.DailyRate(f); got != want || code != wantCode {
		t.Errorf("DailyRate(%v): got %d, code %d, want %d, code %d", f, got, code, want, wantCode)
	}
}

func checkOff(t *testing.T, f impl.Fit, hour, want, wantCode int64) {
	t.Helper()
	if got, code := impl.OffAt(f, hour); got != want || code != wantCode {
		t.Errorf("OffAt(%v, %d): got %d, code %d, want %d, code %d", f, hour, got, code, want, wantCode)
	}
}

func checkResiduals(t *testing.T, list []impl.Reading, want []int64, wantCode int64) {
	t.Helper()
	if got, code := impl.ResidualsOf(list); !slices.Equal(got, want) || code != wantCode {
		t.Errorf("ResidualsOf(%v): got %v, code %d, want %v, code %d", list, got, code, want, wantCode)
	}
}

func checkRates(t *testing.T, list []impl.Reading, want []int64, wantCode int64) {
	t.Helper()
	if got, code := impl.RatesBetween(list); !slices.Equal(got, want) || code != wantCode {
		t.Errorf("RatesBetween(%v): got %v, code %d, want %v, code %d", list, got, code, want, wantCode)
	}
}

func checkJumps(t *testing.T, list []impl.Reading, by int64, want []int64, wantCode int64) {
	t.Helper()
	if got, code := impl.JumpsOf(list, by); !slices.Equal(got, want) || code != wantCode {
		t.Errorf("JumpsOf(%v, %d): got %v, code %d, want %v, code %d", list, by, got, code, want, wantCode)
	}
}

func checkMedian(t *testing.T, list []impl.Reading, want, wantCode int64) {
	t.Helper()
	if got, code := impl.MedianOff(list); got != want || code != wantCode {
		t.Errorf("MedianOff(%v): got %d, code %d, want %d, code %d", list, got, code, want, wantCode)
	}
}

func checkChange(t *testing.T, list []impl.Reading, want, wantCode int64) {
	t.Helper()
	if got, code := impl.BestChange(list); got != want || code != wantCode {
		t.Errorf("BestChange(%v): got %d, code %d, want %d, code %d", list, got, code, want, wantCode)
	}
}

// checkLine checks the functions of a Fit at some hours.
func checkLine(t *testing.T, f impl.Fit, hours ...int64) {
	t.Helper()
	daily, code := expectDaily(f)
	checkDaily(t, f, daily, code)
	for _, hour := range hours {
		off, code := expectOff(f, hour)
		checkOff(t, f, hour, off, code)
	}
}

// checkRecord checks all functions of readings.
func checkRecord(t *testing.T, list []impl.Reading, by int64) {
	t.Helper()
	f, code := expectFit(list)
	checkFitOf(t, list, f, code)
	residuals, code := expectResiduals(list)
	checkResiduals(t, list, residuals, code)
	rates, code := expectRates(list)
	checkRates(t, list, rates, code)
	jumps, code := expectJumps(list, by)
	checkJumps(t, list, by, jumps, code)
	median, code := expectMedian(list)
	checkMedian(t, list, median, code)
	k, code := expectChange(list)
	checkChange(t, list, k, code)
}

func anyOff(source *rand.Rand) int64 {
	return []int64{0, 100000, -100000, source.Int63n(200001) - 100000, source.Int63n(200001) - 100000, source.Int63n(41) - 20}[source.Intn(6)]
}

// anyHours returns strictly increasing ones, sometimes up to MaxHour.
func anyHours(count int, source *rand.Rand) []int64 {
	gap := []int64{1, 1 + source.Int63n(24), 150}[source.Intn(3)]
	hour := []int64{0, 1, source.Int63n(900)}[source.Intn(3)]
	var hours []int64
	for range count {
		hours = append(hours, hour)
		hour += 1 + source.Int63n(gap)
	}
	if count > 0 && source.Intn(4) == 0 {
		shift := 10000 - hours[count-1]
		for i := range hours {
			hours[i] += shift
		}
	}
	return hours
}

// anyReadings returns a valid list: with errors of any size, small ones, some on two levels, or some about a line.
func anyReadings(source *rand.Rand) []impl.Reading {
	count := []int{0, 1, 2, 60, source.Intn(61), source.Intn(8)}[source.Intn(6)]
	var list []impl.Reading
	kind, change, noise := source.Intn(4), source.Intn(count+1), 1+source.Int63n(20)
	low, high := anyOff(source), anyOff(source)
	for i, hour := range anyHours(count, source) {
		off := low
		switch {
		case kind == 0:
			off = anyOff(source)
		case kind == 1:
			off = source.Int63n(2*noise+1) - noise
		case kind == 2 && i >= change:
			off = high
		case kind == 3:
			off += (high-low)*hour/10000 + source.Int63n(2*noise+1) - noise
		}
		list = append(list, impl.Reading{Hour: hour, Off: min(max(off, -100000), 100000)})
	}
	return list
}

// leastSquares returns the least SumXX of a valid Fit.
func leastSquares(count, x int64) int64 {
	if count == 0 {
		return 0
	}
	return (x*x + count - 1) / count
}

// anyFit returns a valid one, which most often belongs to no readings.
func anyFit(source *rand.Rand) impl.Fit {
	count := []int64{0, 1, 2, 59, 60, source.Int63n(61), 1 + source.Int63n(60), 1 + source.Int63n(60)}[source.Intn(8)]
	x := upTo(count*10000, source)
	low := leastSquares(count, x)
	return fit(count, x, upTo(2*count*100000, source)-count*100000, low+upTo(count*100000000-low, source), upTo(2*count*1000000000, source)-count*1000000000)
}

// upTo returns a number from 0 to limit, which often is one of the first or of the last ones, or in the middle.
func upTo(limit int64, source *rand.Rand) int64 {
	any := source.Int63n(limit + 1)
	return []int64{0, limit, max(limit-1, 0), min(limit, 1), limit / 2, limit - any%7, any % 7, any, any}[source.Intn(9)]
}

func notOffs() []int64 { return append(farNumbers(), 100001, 100002, -100001, -100002, 200000) }

func notHoursOfDay() []int64 {
	return append(farNumbers(), -1, -2, -10000, 10001, 10002, 20000, 100000)
}

// badReadings are lists that are not valid for one reason, and some with several ones.
func badReadings() [][]impl.Reading {
	list := [][]impl.Reading{readings(0, 0, 0, 0), readings(-1, 100001), readings(10001, -100001), make([]impl.Reading, 60), make([]impl.Reading, 61), longRecord(61), longRecord(62), longRecord(1000), append(longRecord(60), readings(-1, 0)...), readings(5, 1, 5, 2), readings(5, 1, 4, 2), readings(5, 1, 0, 2), readings(0, 1, 5, 2, 5, 3), readings(0, 1, 5, 2, 4, 3), readings(3, 1, 3, 2, 5, 3), readings(3, 1, 2, 2, 5, 3), readings(1, 0, 5, 0, 2, 0, 6, 0), readings(10000, 0, 10000, 0), readings(10000, 0, 0, 0)}
	for place := range 3 {
		for _, bad := range notHoursOfDay() {
			one := readings(0, 5, 24, 29, 48, 50)
			one[place].Hour = bad
			list = append(list, one)
		}
		for _, bad := range notOffs() {
			one := readings(0, 5, 24, 29, 48, 50)
			one[place].Off = bad
			list = append(list, one)
		}
	}
	for _, bad := range []impl.Reading{{Hour: -1}, {Hour: 10001}, {Hour: 600, Off: 100001}, {Hour: 600, Off: -100001}, {Hour: 590, Off: 5}, {Hour: 580, Off: 5}} {
		full := longRecord(60)
		full[59] = bad
		if bad.Hour == 590 {
			full[58].Hour = 590
		}
		list = append(list, full)
	}
	for _, bad := range readings(-1, 0, 10001, 0, 5, 100001, 5, -100001) {
		list = append(list, []impl.Reading{bad})
	}
	return list
}

// badFits are sums that are not valid for one reason, and some with several ones.
func badFits() []impl.Fit {
	list := []impl.Fit{
		fit(-1, 0, 0, 0, 0), fit(61, 0, 0, 0, 0), fit(61, 610, 5, 6100, 7), fit(62, 0, 0, 0, 0), fit(-60, 0, 0, 0, 0), fit(least, 0, 0, 0, 0), fit(greatest, 0, 0, 0, 0),
		// Sums of no reading.
		fit(0, 1, 0, 0, 0), fit(0, -1, 0, 0, 0), fit(0, 0, 1, 0, 0), fit(0, 0, -1, 0, 0), fit(0, 0, 0, 1, 0), fit(0, 0, 0, -1, 0), fit(0, 0, 0, 0, 1), fit(0, 0, 0, 0, -1),
		// Count * SumXX is less than SumX * SumX by one, or by much.
		fit(1, 5, 0, 24, 0), fit(1, 12, 0, 143, 0), fit(1, 10000, 0, 99999999, 0), fit(2, 1, 0, 0, 0), fit(2, 3, 0, 4, 0), fit(5, 3, 0, 1, 0), fit(10, 3, 0, 0, 0), fit(60, 600000, 0, 5999999999, 0), fit(60, 600000, 6000000, 0, 0), fit(60, 60, 0, 59, 0),
	}
	whole := fit(2, 24, 34, 576, 696)
	for _, bad := range append(farNumbers(), -1, 61, 62) {
		f := whole
		f.Count = bad
		list = append(list, f)
	}
	for _, c := range []struct {
		field func(*impl.Fit) *int64
		bad   []int64
	}{
		{func(f *impl.Fit) *int64 { return &f.SumX }, []int64{-1, -24, 20001, 20002}},
		{func(f *impl.Fit) *int64 { return &f.SumY }, []int64{-200001, -200002, 200001, 200002}},
		{func(f *impl.Fit) *int64 { return &f.SumXX }, []int64{-1, -576, 0, 287, 200000001, 200000002}},
		{func(f *impl.Fit) *int64 { return &f.SumXY }, []int64{-2000000001, -2000000002, 2000000001, 2000000002}},
	} {
		for _, bad := range append(c.bad, least, least+1, greatest, greatest-1, 1<<40, -1<<40, 1<<62, -1<<62) {
			f := whole
			*c.field(&f) = bad
			list = append(list, f)
		}
	}
	return append(list, fit(least, least, least, least, least), fit(greatest, greatest, greatest, greatest, greatest), fit(-1, -1, -1, -1, -1), fit(60, least, least, least, least))
}

// flatFits are valid ones for which there is no line.
func flatFits() []impl.Fit {
	return []impl.Fit{
		{}, fit(1, 0, 0, 0, 0), fit(1, 12, 0, 144, 0), fit(1, 12, -5, 144, -60), fit(1, 10000, 100000, 100000000, 1000000000), fit(1, 10000, -100000, 100000000, -1000000000), fit(1, 5, 7, 25, 1000000),
		// Sums of several records that have the same hour.
		fit(2, 10, 7, 50, 35), fit(2, 0, 7, 0, 0), fit(2, 24, 34, 288, 696), fit(3, 36, 5, 432, 60), fit(60, 600000, 6000000, 6000000000, 60000000000), fit(60, 0, 0, 0, 0), fit(60, 60, 5, 60, -60000000000), fit(4, 6, 0, 9, 0), fit(59, 590000, -5900000, 5900000000, -59000000000),
	}
}

func TestPromise14ValidReadings(t *testing.T) {
	if impl.MaxReadings != 60 || impl.MaxHour != 10000 || impl.MaxOff != 100000 {
		t.Error("a limit is not that of the specification")
	}
	for _, c := range []struct {
		list []impl.Reading
		want bool
	}{
		{nil, true}, {readings(), true}, {readings(0, 0), true}, {readings(0, 5, 24, 29), true}, {readings(0, 5, 1, 5), true},
		{longRecord(59), true}, {longRecord(60), true}, {longRecord(61), false}, {longRecord(120), false},
		{readings(-1, 5), false}, {readings(-2, 5), false}, {readings(1, 5), true}, {readings(9999, 5), true}, {readings(10000, 5), true}, {readings(10001, 5), false},
		{readings(5, -100001), false}, {readings(5, -100000), true}, {readings(5, -99999), true}, {readings(5, 99999), true}, {readings(5, 100000), true}, {readings(5, 100001), false},
		// Equal to, less than and greater than the one before it.
		{readings(5, 1, 5, 1), false}, {readings(5, 1, 4, 1), false}, {readings(5, 1, 6, 1), true}, {readings(0, 1, 0, 1), false}, {readings(0, 1, 1, 1), true}, {readings(1, 1, 0, 1), false}, {readings(10000, 1, 10000, 1), false}, {readings(9999, 1, 10000, 1), true}, {readings(10000, 1, 9999, 1), false}, {readings(10000, 1, 10001, 1), false}, {readings(-1, 1, 0, 1), false},
		{readings(0, 1, 5, 1, 5, 1), false}, {readings(0, 1, 5, 1, 4, 1), false}, {readings(0, 1, 5, 1, 3, 1, 6, 1), false}, {readings(0, 1, 5, 1, 6, 1), true}, {readings(0, -100000, 1, 100000, 10000, -100000), true}, {readings(0, 1, 5, 1, 6, 100001), false}, {readings(0, -100001, 5, 1, 6, 1), false},
	} {
		if got := impl.ValidReadings(c.list); got != c.want || areReadings(c.list) != c.want {
			t.Errorf("ValidReadings(%v): got %t, want %t", c.list, got, c.want)
		}
	}
	for _, list := range badReadings() {
		if impl.ValidReadings(list) || areReadings(list) {
			t.Errorf("ValidReadings(%v): got true, want false", list)
		}
	}
	for place := range int64(60) {
		for _, bad := range []impl.Reading{{Hour: -1}, {Hour: 10001}, {Hour: 10*place - 10}, {Hour: 10*place - 11}, {Hour: 10*place + 10}, {Hour: 10*place + 11}, {Hour: 10 * place, Off: 100001}, {Hour: 10 * place, Off: -100001}} {
			list := longRecord(60)
			if !impl.ValidReadings(list) {
				t.Fatal("ValidReadings: got false for 60 readings")
			}
			list[place] = bad
			if want := place == 59 && bad.Hour > 590 && bad.Hour < 10001; impl.ValidReadings(list) != want || areReadings(list) != want {
				t.Errorf("ValidReadings: got %t, although reading %d is %v", !want, place, bad)
			}
		}
	}
}

func TestPromise14ValidFit(t *testing.T) {
	for _, c := range []struct {
		f    impl.Fit
		want bool
	}{
		{impl.Fit{}, true}, {fit(2, 24, 34, 576, 696), true}, {fit(-1, 0, 0, 0, 0), false}, {fit(60, 0, 0, 0, 0), true}, {fit(61, 0, 0, 0, 0), false}, {fit(59, 0, 0, 0, 0), true}, {fit(1, 0, 0, 0, 0), true},
		// Each sum at both of its limits, and one beyond each.
		{fit(2, 0, 0, 0, 0), true}, {fit(2, -1, 0, 200000000, 0), false}, {fit(2, 20000, 0, 200000000, 0), true}, {fit(2, 20001, 0, 200000000, 0), false}, {fit(2, 19999, 0, 200000000, 0), true},
		{fit(2, 24, 200000, 576, 0), true}, {fit(2, 24, 200001, 576, 0), false}, {fit(2, 24, -200000, 576, 0), true}, {fit(2, 24, -200001, 576, 0), false},
		{fit(2, 0, 0, -1, 0), false}, {fit(2, 0, 0, 200000000, 0), true}, {fit(2, 0, 0, 200000001, 0), false}, {fit(2, 0, 0, 199999999, 0), true},
		{fit(2, 24, 0, 576, 2000000000), true}, {fit(2, 24, 0, 576, 2000000001), false}, {fit(2, 24, 0, 576, -2000000000), true}, {fit(2, 24, 0, 576, -2000000001), false},
		{fit(60, 600000, 6000000, 6000000000, 60000000000), true}, {fit(60, 600000, -6000000, 6000000000, -60000000000), true}, {fit(60, 600001, 0, 6000000000, 0), false}, {fit(60, 600000, 0, 5999999999, 0), false}, {fit(60, 599999, 0, 5999999999, 0), true}, {fit(60, 0, 6000001, 0, 0), false}, {fit(60, 0, -6000001, 0, 0), false}, {fit(60, 0, 0, 6000000001, 0), false}, {fit(60, 0, 0, 0, 60000000001), false}, {fit(60, 0, 0, 0, -60000000001), false},
		{fit(1, 10000, 100000, 100000000, 1000000000), true}, {fit(1, 10001, 0, 100000000, 0), false}, {fit(1, 10000, 100001, 100000000, 0), false}, {fit(1, 10000, 0, 100000001, 0), false}, {fit(1, 10000, 0, 100000000, 1000000001), false},
		{fit(0, 0, 0, 1, 0), false}, {fit(0, 0, 1, 0, 0), false}, {fit(0, 1, 0, 0, 0), false}, {fit(0, 0, 0, 0, 1), false}, {fit(0, 0, 0, 0, -1), false}, {fit(0, 0, -1, 0, 0), false},
		// Count * SumXX is equal to SumX * SumX, one less and one more.
		{fit(1, 5, 0, 25, 0), true}, {fit(1, 5, 0, 24, 0), false}, {fit(1, 5, 0, 26, 0), true}, {fit(2, 4, 0, 8, 0), true}, {fit(2, 4, 0, 7, 0), false}, {fit(2, 3, 0, 4, 0), false}, {fit(2, 3, 0, 5, 0), true}, {fit(5, 2, 0, 1, 0), true}, {fit(5, 3, 0, 2, 0), true}, {fit(10, 3, 0, 1, 0), true}, {fit(5, 7, 0, 10, 0), true}, {fit(5, 7, 0, 9, 0), false}, {fit(58, 17, 0, 5, 0), true}, {fit(60, 60, 0, 60, 0), true}, {fit(60, 61, 0, 62, 0), false}, {fit(60, 61, 0, 63, 0), true}, {fit(50, 7, 0, 1, 0), true}, {fit(48, 7, 0, 1, 0), false}, {fit(49, 7, 0, 1, 0), true},
		// Ones that belong to no readings.
		{fit(1, 5, 7, 26, 1000), true}, {fit(60, 0, 6000000, 0, -60000000000), true}, {fit(60, 0, 0, 6000000000, 0), true}, {fit(3, 1, 300000, 1, -3000000000), true},
	} {
		if got := impl.ValidFit(c.f); got != c.want || isFit(c.f) != c.want {
			t.Errorf("ValidFit(%v): got %t, want %t", c.f, got, c.want)
		}
	}
	for _, f := range badFits() {
		if impl.ValidFit(f) || isFit(f) {
			t.Errorf("ValidFit(%v): got true, want false", f)
		}
	}
	for _, f := range flatFits() {
		if !impl.ValidFit(f) {
			t.Errorf("ValidFit(%v): got false, want true", f)
		}
	}
}

func TestPromise14LimitsOfFits(t *testing.T) {
	for count := int64(-1); count <= 61; count++ {
		for _, x := range []int64{-1, 0, 1, count, count * 5000, count*10000 - 1, count * 10000, count*10000 + 1} {
			low := leastSquares(max(count, 0), x)
			for _, xx := range []int64{-1, 0, low - 1, low, low + 1, count*100000000 - 1, count * 100000000, count*100000000 + 1} {
				for _, y := range []int64{-count*100000 - 1, -count * 100000, 0, count * 100000, count*100000 + 1} {
					for _, xy := range []int64{-count*1000000000 - 1, -count * 1000000000, 0, count * 1000000000, count*1000000000 + 1} {
						f := fit(count, x, y, xx, xy)
						if got := impl.ValidFit(f); got != isFit(f) {
							t.Errorf("ValidFit(%v): got %t, want %t", f, got, isFit(f))
						}
					}
				}
			}
		}
	}
	// Any numbers in each field, as far as int64 goes.
	numbers := append(farNumbers(), 1<<33, 1<<40, -1<<40, 1<<62, -1<<62, 1<<63-1<<32, 3037000500, 4294967296*3, -1, 0, 1, 24, 2, 60, 61)
	for _, n := range numbers {
		for _, base := range []impl.Fit{{}, fit(2, 24, 34, 576, 696), fit(60, 600000, 6000000, 6000000000, 60000000000), fit(60, 0, 0, 6000000000, 0)} {
			for i := range 5 {
				for _, second := range numbers {
					f := base
					fields := []*int64{&f.Count, &f.SumX, &f.SumY, &f.SumXX, &f.SumXY}
					*fields[i], *fields[(i+1)%5] = n, second
					if got := impl.ValidFit(f); got != isFit(f) {
						t.Errorf("ValidFit(%v): got %t, want %t", f, got, isFit(f))
					}
				}
			}
		}
	}
}

func TestPromise14FitOf(t *testing.T) {
	var early, late []impl.Reading
	for i := range int64(60) {
		early = append(early, impl.Reading{Hour: i, Off: 100000})
		late = append(late, impl.Reading{Hour: 9941 + i, Off: -100000})
	}
	for _, c := range []struct {
		list []impl.Reading
		want impl.Fit
	}{
		{nil, impl.Fit{}}, {readings(), impl.Fit{}}, {readings(0, 0), fit(1, 0, 0, 0, 0)}, {readings(0, 5), fit(1, 0, 5, 0, 0)}, {readings(12, 20), fit(1, 12, 20, 144, 240)}, {readings(12, -20), fit(1, 12, -20, 144, -240)},
		{readings(10000, 100000), fit(1, 10000, 100000, 100000000, 1000000000)}, {readings(10000, -100000), fit(1, 10000, -100000, 100000000, -1000000000)},
		{readings(0, 5, 24, 29), fit(2, 24, 34, 576, 696)}, {readings(0, 5, 12, 20, 24, 29), fit(3, 36, 54, 720, 936)}, {readings(1, -3, 2, 4), fit(2, 3, 1, 5, 5)}, {readings(1, 4, 2, -3), fit(2, 3, 1, 5, -2)}, {readings(3, 7, 5, -7), fit(2, 8, 0, 34, -14)},
		// The least and the greatest sums.
		{early, fit(60, 1770, 6000000, 70210, 177000000)}, {late, fit(60, 598230, -6000000, 5964670210, -59823000000)},
	} {
		checkFitOf(t, c.list, c.want, impl.OK)
		if want, code := expectFit(c.list); want != c.want || code != impl.OK {
			t.Errorf("fit of %v: got %v, by adding %v", c.list, c.want, want)
		}
	}
	// Two readings with the greatest distance, and one between them, so that all sums are great.
	checkFitOf(t, readings(0, 100000, 9999, 100000, 10000, 100000), fit(3, 19999, 300000, 199980001, 1999900000), impl.OK)
	checkFitOf(t, readings(0, -100000, 9999, -100000, 10000, -100000), fit(3, 19999, -300000, 199980001, -1999900000), impl.OK)
	for _, bad := range badReadings() {
		checkFitOf(t, bad, impl.Fit{}, impl.ErrInvalid)
	}
}

func TestPromise14SumsAreThoseOfTheirParts(t *testing.T) {
	source := rand.New(rand.NewSource(141))
	for range 3000 {
		list := anyReadings(source)
		whole, code := impl.FitOf(list)
		if code != impl.OK || !impl.ValidFit(whole) || whole.Count != int64(len(list)) {
			t.Fatalf("FitOf(%v): got %v, code %d", list, whole, code)
		}
		var one impl.Fit
		for k := range len(list) + 1 {
			first, code := impl.FitOf(list[:k])
			last, otherCode := impl.FitOf(list[k:])
			if code != impl.OK || otherCode != impl.OK {
				t.Fatalf("FitOf of parts of %v: got codes %d and %d", list, code, otherCode)
			}
			checkAdded(t, first, last, whole, impl.OK)
			checkAdded(t, last, first, whole, impl.OK)
			if first != one {
				t.Errorf("FitOf(%v): got %v, but %v one after the other", list[:k], first, one)
			}
			if k < len(list) {
				single, _ := impl.FitOf(list[k : k+1])
				one, _ = impl.AddFits(one, single)
			}
		}
		// Parts that are mixed.
		var parts [3][]impl.Reading
		for _, r := range list {
			i := source.Intn(3)
			parts[i] = append(parts[i], r)
		}
		var sum impl.Fit
		for _, part := range parts {
			f, _ := impl.FitOf(part)
			sum, _ = impl.AddFits(sum, f)
		}
		if sum != whole {
			t.Errorf("FitOf(%v): got %v, but %v in three parts", list, whole, sum)
		}
	}
}

func TestPromise14AddFits(t *testing.T) {
	f := fit(2, 24, 34, 576, 696)
	for _, c := range []struct{ a, b, want impl.Fit }{
		{f, fit(1, 12, 20, 144, 240), fit(3, 36, 54, 720, 936)}, {f, f, fit(4, 48, 68, 1152, 1392)}, {f, impl.Fit{}, f}, {impl.Fit{}, f, f}, {impl.Fit{}, impl.Fit{}, impl.Fit{}},
		{f, fit(2, 3, -40, 5, -800), fit(4, 27, -6, 581, -104)}, {fit(1, 5, 7, 25, 35), fit(1, 5, -7, 25, -35), fit(2, 10, 0, 50, 0)},
		{fit(2, 1, 5, 1, 9), fit(3, 2, -1, 7, 4), fit(5, 3, 4, 8, 13)}, {fit(3, 1, 2, 4, 8), fit(5, 16, 32, 64, 128), fit(8, 17, 34, 68, 136)},
		// With a Count of MaxReadings.
		{fit(30, 1, 2, 4, 8), fit(30, 16, 32, 64, 128), fit(60, 17, 34, 68, 136)}, {f, fit(58, 0, 0, 0, 0), fit(60, 24, 34, 576, 696)}, {fit(58, 0, 0, 0, 0), f, fit(60, 24, 34, 576, 696)}, {fit(60, 17, 34, 68, 136), impl.Fit{}, fit(60, 17, 34, 68, 136)}, {impl.Fit{}, fit(60, 17, 34, 68, 136), fit(60, 17, 34, 68, 136)},
		{fit(30, 300000, 3000000, 3000000000, 30000000000), fit(30, 300000, 3000000, 3000000000, 30000000000), fit(60, 600000, 6000000, 6000000000, 60000000000)}, {fit(59, 590000, -5900000, 5900000000, -59000000000), fit(1, 10000, -100000, 100000000, -1000000000), fit(60, 600000, -6000000, 6000000000, -60000000000)},
	} {
		checkAdded(t, c.a, c.b, c.want, impl.OK)
	}
	// One more than MaxReadings, and many more.
	for _, c := range []struct{ a, b impl.Fit }{
		{f, fit(59, 0, 0, 0, 0)}, {fit(59, 0, 0, 0, 0), f}, {fit(60, 0, 0, 0, 0), fit(1, 0, 0, 0, 0)}, {fit(1, 0, 0, 0, 0), fit(60, 17, 34, 68, 136)}, {fit(31, 1, 2, 4, 8), fit(30, 1, 2, 4, 8)}, {fit(60, 600000, 6000000, 6000000000, 60000000000), fit(60, 600000, 6000000, 6000000000, 60000000000)}, {fit(60, 600000, -6000000, 6000000000, -60000000000), fit(1, 10000, -100000, 100000000, -1000000000)},
	} {
		checkAdded(t, c.a, c.b, impl.Fit{}, impl.ErrFull)
	}
}

func TestPromise14AnyFitsAreAdded(t *testing.T) {
	source := rand.New(rand.NewSource(142))
	count := map[int64]int{}
	for range 30000 {
		a, b, c := anyFit(source), anyFit(source), anyFit(source)
		want, code := expectAdded(a, b)
		checkAdded(t, a, b, want, code)
		checkAdded(t, b, a, want, code)
		count[code]++
		if !impl.ValidFit(a) || !isFit(a) || !impl.ValidFit(want) {
			t.Fatalf("%v or the sum of it and of %v is not valid", a, b)
		}
		if a.Count+b.Count+c.Count <= 60 {
			other, _ := impl.AddFits(b, c)
			last, _ := impl.AddFits(a, other)
			checkAdded(t, want, c, last, impl.OK)
		}
	}
	if count[impl.OK] < 5000 || count[impl.ErrFull] < 5000 {
		t.Errorf("the results are not of all kinds: %v", count)
	}
}

func TestPromise14DailyRate(t *testing.T) {
	for _, c := range []struct {
		list []impl.Reading
		want int64
	}{
		{readings(0, 5, 24, 29), 24000}, {readings(0, 5, 12, 20, 24, 29), 24000}, {readings(0, 0, 24, 1), 1000}, {readings(24, 5, 48, 6), 1000}, {readings(0, 1, 24, 0), -1000}, {readings(0, 29, 24, 5), -24000},
		// Level lines.
		{readings(0, 7, 24, 7), 0}, {readings(3, -7, 4, -7, 10000, -7), 0}, {readings(0, 1, 1, -2, 2, 1), 0}, {readings(0, 100000, 10000, 100000), 0},
		// Exactly between two, where the greater one is taken.
		{readings(0, 0, 640, 1), 38}, {readings(0, 1, 640, 0), -37}, {readings(0, 0, 128, 1), 188}, {readings(0, 1, 128, 0), -187}, {readings(0, 0, 9600, 1), 3}, {readings(0, 1, 9600, 0), -2}, {readings(0, 0, 3200, 1), 8}, {readings(0, 1, 3200, 0), -7}, {readings(100, 50000, 740, 49997), -112}, {readings(100, 50000, 740, 50003), 113},
		// Nearest to either.
		{readings(0, 0, 7, 1), 3429}, {readings(0, 1, 7, 0), -3429}, {readings(0, 0, 9, 1), 2667}, {readings(0, 0, 9, -1), -2667}, {readings(0, 0, 11, 1), 2182}, {readings(0, 0, 11, -1), -2182}, {readings(0, 0, 7, 2), 6857}, {readings(0, 0, 7, -2), -6857}, {readings(0, 0, 10000, 1), 2}, {readings(0, 0, 10000, -1), -2}, {readings(0, 0, 9000, 1), 3}, {readings(0, 0, 9000, -1), -3}, {readings(0, 0, 9601, 1), 2}, {readings(0, 0, 9599, 1), 3}, {readings(0, 0, 9601, -1), -2}, {readings(0, 0, 9599, -1), -3},
		// The greatest and the least rates.
		{readings(0, -100000, 1, 100000), 4800000000}, {readings(0, 100000, 1, -100000), -4800000000}, {readings(9999, -100000, 10000, 100000), 4800000000}, {readings(0, -100000, 10000, 100000), 480000}, {readings(0, 100000, 10000, -100000), -480000},
		// Of more than two readings.
		{readings(0, 0, 1, 0, 2, 1), 12000}, {readings(0, 0, 1, 1, 2, 0), 0}, {readings(0, 0, 1, 0, 3, 1), 8571}, {readings(0, 0, 1, 0, 3, -1), -8571}, {readings(0, 0, 1, 1, 3, 0), -1714}, {readings(0, 0, 1, -1, 3, 0), 1714}, {hourly(3, 1, 4, 1, 5, 9, 2, 6), 12857}, {hourly(6, 2, 9, 5, 1, 4, 1, 3), -12857},
	} {
		f, _ := impl.FitOf(c.list)
		checkDaily(t, f, c.want, impl.OK)
		if want, code := expectDaily(f); want != c.want || code != impl.OK {
			t.Errorf("daily rate of %v: got %d, exactly %d", c.list, c.want, want)
		}
	}
	for _, f := range flatFits() {
		checkDaily(t, f, 0, impl.ErrState)
	}
	for _, f := range badFits() {
		checkDaily(t, f, 0, impl.ErrInvalid)
	}
}

func TestPromise14OffAt(t *testing.T) {
	for _, c := range []struct {
		list       []impl.Reading
		hour, want int64
	}{
		{readings(0, 5, 24, 29), 12, 17}, {readings(0, 5, 24, 29), 0, 5}, {readings(0, 5, 24, 29), 24, 29}, {readings(0, 5, 24, 29), 25, 30}, {readings(0, 5, 24, 29), 10000, 10005}, {readings(0, 5, 12, 20, 24, 29), 12, 18}, {readings(0, 5, 12, 20, 24, 29), 0, 6}, {readings(0, 5, 12, 20, 24, 29), 24, 30},
		// Level and falling lines.
		{readings(0, 7, 24, 7), 0, 7}, {readings(0, 7, 24, 7), 10000, 7}, {readings(0, -7, 24, -7), 5000, -7}, {readings(0, 29, 24, 5), 12, 17}, {readings(0, 29, 24, 5), 30, -1}, {readings(0, 29, 24, 5), 10000, -9971}, {readings(24, 29, 25, 5), 0, 605}, {readings(24, 5, 25, 29), 0, -571},
		// Exactly between two, where the greater one is taken.
		{readings(0, 0, 2, 1), 1, 1}, {readings(0, 0, 2, -1), 1, 0}, {readings(0, 0, 2, 1), 3, 2}, {readings(0, 0, 2, -1), 3, -1}, {readings(0, -100000, 2, -99999), 1, -99999}, {readings(0, 99999, 2, 100000), 1, 100000}, {readings(0, 0, 1, 1, 2, 1, 3, 2), 5, 3}, {readings(2, 0, 4, 1), 1, 0}, {readings(2, 0, 4, -1), 1, 1}, {readings(0, 1, 1, 2, 2, 2, 3, 1), 0, 2}, {readings(0, -1, 1, -2, 2, -2, 3, -1), 0, -1}, {readings(0, 0, 10000, 1), 5000, 1}, {readings(0, 0, 10000, -1), 5000, 0},
		// Nearest to either.
		{readings(0, 0, 3, 1), 1, 0}, {readings(0, 0, 3, 1), 2, 1}, {readings(0, 0, 3, -1), 1, 0}, {readings(0, 0, 3, -1), 2, -1}, {readings(0, 0, 10000, 1), 4999, 0}, {readings(0, 0, 10000, 1), 5001, 1}, {readings(0, 0, 10000, -1), 4999, 0}, {readings(0, 0, 10000, -1), 5001, -1}, {readings(3, 0, 6, 1), 2, 0}, {readings(3, 0, 6, 1), 1, -1}, {readings(3, 0, 6, 1), 0, -1}, {readings(0, 0, 1, 0, 2, 1), 0, 0}, {readings(0, 0, 1, 0, 2, 1), 2, 1}, {readings(0, 0, 1, 1, 2, 0), 77, 0}, {readings(0, 1, 1, 1, 2, 0), 77, -37},
		// Far away from the readings.
		{readings(0, -100000, 1, 100000), 10000, 1999900000}, {readings(0, 100000, 1, -100000), 10000, -1999900000}, {readings(9999, -100000, 10000, 100000), 0, -1999900000}, {readings(9999, 100000, 10000, -100000), 0, 1999900000}, {readings(0, -100000, 10000, 100000), 5000, 0}, {readings(0, -100000, 10000, 100000), 5001, 20}, {readings(0, -100000, 1, 100000), 9999, 1999700000}, {readings(9999, 100000, 10000, -100000), 1, 1999700000},
	} {
		f, _ := impl.FitOf(c.list)
		checkOff(t, f, c.hour, c.want, impl.OK)
		if want, code := expectOff(f, c.hour); want != c.want || code != impl.OK {
			t.Errorf("value of the line of %v at %d: got %d, exactly %d", c.list, c.hour, c.want, want)
		}
	}
	f := fit(2, 24, 34, 576, 696)
	checkOff(t, f, -1, 0, impl.ErrRange)
	checkOff(t, f, 10001, 0, impl.ErrRange)
	checkOff(t, f, 1, 6, impl.OK)
	checkOff(t, f, 9999, 10004, impl.OK)
	for _, hour := range notHoursOfDay() {
		checkOff(t, f, hour, 0, impl.ErrRange)
	}
}

func TestPromise14FitsWithoutALine(t *testing.T) {
	hours := append(notHoursOfDay(), 0, 1, 12, 5000, 9999, 10000)
	for _, f := range flatFits() {
		checkDaily(t, f, 0, impl.ErrState)
		for _, hour := range hours {
			checkOff(t, f, hour, 0, impl.ErrState)
		}
		if spreadOf(f).Sign() != 0 {
			t.Errorf("%v has a line", f)
		}
	}
	for _, list := range [][]impl.Reading{nil, readings(), readings(0, 0), readings(12, 20), readings(10000, -100000)} {
		f, code := impl.FitOf(list)
		if code != impl.OK {
			t.Errorf("FitOf(%v): got code %d", list, code)
		}
		checkDaily(t, f, 0, impl.ErrState)
		checkOff(t, f, 0, 0, impl.ErrState)
		checkOff(t, f, 10001, 0, impl.ErrState)
		checkResiduals(t, list, nil, impl.ErrState)
	}
	// Readings of the same hour, whose sums are added, have no line, but with another one they have.
	for hour := int64(0); hour <= 10000; hour += 500 {
		var sum impl.Fit
		for i := range int64(59) {
			f, _ := impl.FitOf(readings(hour, 1000-100*i))
			sum, _ = impl.AddFits(sum, f)
			checkDaily(t, sum, 0, impl.ErrState)
			checkOff(t, sum, hour, 0, impl.ErrState)
		}
		f, _ := impl.FitOf(readings((hour+1)%10000, 77))
		sum, _ = impl.AddFits(sum, f)
		checkLine(t, sum, 0, hour, 10000)
		if _, code := impl.DailyRate(sum); code != impl.OK {
			t.Errorf("DailyRate(%v): got code %d", sum, code)
		}
	}
}

func TestPromise14LinesOfReadingsOnALine(t *testing.T) {
	source := rand.New(rand.NewSource(143))
	kinds := map[string]int{}
	for range 4000 {
		// The line rises by p in q hours, so all hours differ by multiples of q.
		q := 1 + source.Int63n([]int64{1, 3, 24, 150}[source.Intn(4)])
		hours := anyHours(2+source.Intn(59), source)
		first := source.Int63n(q)
		for i := range hours {
			hours[i] = first + q*hours[i]
		}
		for hours[len(hours)-1] > 10000 && len(hours) > 2 {
			hours = hours[:len(hours)-1]
		}
		far := hours[len(hours)-1]
		if far > 10000 {
			continue
		}
		p := source.Int63n(2*(150000*q/far)+1) - 150000*q/far
		p = []int64{p, p % 100, 0}[source.Intn(3)]
		start := source.Int63n(20001) - 10000 - p*(far/2/q)
		var list []impl.Reading
		for _, hour := range hours {
			list = append(list, impl.Reading{Hour: hour, Off: start + p*((hour-first)/q)})
		}
		if !areReadings(list) {
			continue
		}
		f, code := impl.FitOf(list)
		if code != impl.OK {
			t.Fatalf("FitOf(%v): got code %d", list, code)
		}
		checkDaily(t, f, roundOf(big.NewRat(24000*p, q)), impl.OK)
		checkResiduals(t, list, make([]int64, len(list)), impl.OK)
		for _, hour := range append([]int64{0, 10000, source.Int63n(10001), source.Int63n(10001)}, hours...) {
			checkOff(t, f, hour, roundOf(big.NewRat(start*q+p*(hour-first), q)), impl.OK)
		}
		kinds[fmt.Sprint(big.NewRat(p, 1).Sign(), q == 1)]++
	}
	for _, kind := range []string{"1 true", "1 false", "0 true", "0 false", "-1 true", "-1 false"} {
		if kinds[kind] < 100 {
			t.Errorf("the lines are not of all kinds: %v", kinds)
		}
	}
}

// squaresOf returns the sum of the squared differences of readings from the line with the value off at the hour 0.
func squaresOf(list []impl.Reading, off, slope *big.Rat) *big.Rat {
	sum := new(big.Rat)
	for _, r := range list {
		far := times(r.Hour, slope)
		far.Add(far, off)
		far.Sub(far, big.NewRat(r.Off, 1))
		sum.Add(sum, far.Mul(far, far))
	}
	return sum
}

func TestPromise14NoLineIsNearerThanTheFittedOne(t *testing.T) {
	source := rand.New(rand.NewSource(144))
	for range 300 {
		list := anyReadings(source)
		if len(list) < 2 {
			continue
		}
		f, _ := impl.FitOf(list)
		off, slope := exactOff(f, 0), exactSlope(f)
		squares := squaresOf(list, off, slope)
		for _, d := range []*big.Rat{big.NewRat(1, 1), big.NewRat(1, 1+source.Int63n(1000000)), new(big.Rat)} {
			for _, e := range []*big.Rat{big.NewRat(-1, 1), big.NewRat(1, 1+source.Int63n(1000000)), new(big.Rat)} {
				if d.Sign() == 0 && e.Sign() == 0 {
					continue
				}
				for _, both := range [][2]*big.Rat{{d, e}, {new(big.Rat).Neg(d), e}, {d, new(big.Rat).Neg(e)}} {
					if squaresOf(list, new(big.Rat).Add(off, both[0]), new(big.Rat).Add(slope, both[1])).Cmp(squares) <= 0 {
						t.Errorf("a line beside that of %v, by %v and %v, is as near", list, both[0], both[1])
					}
				}
			}
		}
		checkDaily(t, f, roundOf(times(24000, slope)), impl.OK)
		for _, hour := range []int64{0, 1, list[0].Hour, 5000, 10000, source.Int63n(10001)} {
			checkOff(t, f, hour, roundOf(new(big.Rat).Add(off, times(hour, slope))), impl.OK)
		}
	}
}

func TestPromise14LinesAtTheLimitsOfAllSums(t *testing.T) {
	hours := []int64{0, 1, 5000, 9999, 10000, -1, 10001}
	for _, count := range []int64{1, 2, 3, 30, 58, 59, 60} {
		for _, x := range []int64{0, 1, count * 5000, count*10000 - 1, count * 10000} {
			low := leastSquares(count, x)
			for _, xx := range []int64{low, low + 1, (low + count*100000000) / 2, count*100000000 - 1, count * 100000000} {
				if xx < low || xx > count*100000000 {
					continue
				}
				for _, y := range []int64{-count * 100000, 1 - count*100000, 0, 1, count * 100000} {
					for _, xy := range []int64{-count * 1000000000, 0, 1, count*1000000000 - 1, count * 1000000000} {
						f := fit(count, x, y, xx, xy)
						if !impl.ValidFit(f) {
							t.Fatalf("ValidFit(%v): got false, want true", f)
						}
						checkLine(t, f, hours...)
					}
				}
			}
		}
	}
	// The steepest lines: Count * SumXX is SumX * SumX + 1.
	steep := 0
	for x := int64(579000); x <= 580000; x++ {
		xx := (x*x + 1) / 58
		if xx*58 != x*x+1 {
			continue
		}
		steep++
		for sign := int64(-1); sign <= 1; sign += 2 {
			for _, y := range []int64{-5800000, 5800000} {
				f := fit(58, x, y, xx, sign*58000000000)
				checkLine(t, f, hours...)
			}
		}
	}
	if steep < 10 {
		t.Errorf("only %d lines are steep", steep)
	}
	checkDaily(t, fit(58, 579983, -5800000, 5799660005, 58000000000), 161469633600000000, impl.OK)
	checkOff(t, fit(58, 579983, -5800000, 5799660005, 58000000000), 10000, 1971971000000, impl.OK)
}

func TestPromise14LinesOfAnyFits(t *testing.T) {
	source := rand.New(rand.NewSource(145))
	count := map[string]int{}
	for i := range 40000 {
		f := anyFit(source)
		if i%4 == 0 {
			// Small sums, for which a value is often exactly between two.
			n, x := 2+source.Int63n(7), source.Int63n(40)
			f = fit(n, x, source.Int63n(41)-20, leastSquares(n, x)+source.Int63n(100), source.Int63n(401)-200)
		}
		checkLine(t, f, 0, 10000, source.Int63n(10001), -1-source.Int63n(3), 10001+source.Int63n(3))
		daily, code := impl.DailyRate(f)
		if code != impl.OK {
			count["none"]++
			continue
		}
		count[fmt.Sprint(big.NewRat(daily, 1).Sign())]++
		for _, exact := range []*big.Rat{times(24000, exactSlope(f)), exactOff(f, 0)} {
			if exact.IsInt() {
				count["whole"]++
			}
			if exact.Denom().Cmp(big.NewInt(2)) == 0 {
				count[fmt.Sprint("half ", exact.Sign())]++
			}
		}
	}
	if count["none"] < 1000 || count["-1"] < 5000 || count["1"] < 5000 || count["0"] < 300 || count["half 1"] < 20 || count["half -1"] < 20 || count["whole"] < 300 {
		t.Errorf("the results are not of all kinds: %v", count)
	}
}

func TestPromise14ResidualsOf(t *testing.T) {
	for _, c := range []struct {
		list []impl.Reading
		want []int64
	}{
		{readings(0, 5, 12, 20, 24, 29), []int64{-1, 2, -1}},
		// On a line.
		{readings(0, 5, 12, 17, 24, 29), []int64{0, 0, 0}}, {readings(0, 29, 12, 17, 24, 5), []int64{0, 0, 0}}, {readings(3, 7, 5, 7, 10000, 7), []int64{0, 0, 0}}, {readings(0, -100000, 5000, 0, 10000, 100000), []int64{0, 0, 0}},
		// Of two readings.
		{readings(0, 5, 24, 29), []int64{0, 0}}, {readings(0, -100000, 1, 100000), []int64{0, 0}}, {readings(9999, 100000, 10000, -100000), []int64{0, 0}}, {readings(0, 0, 7, 1), []int64{0, 0}}, {readings(3, 0, 10000, 1), []int64{0, 0}},
		// Beside it, where the value of the line is rounded before it is subtracted.
		{hourly(0, 1, 0), []int64{0, 1, 0}}, {hourly(0, -1, 0), []int64{0, -1, 0}}, {hourly(1, 0, 1), []int64{0, -1, 0}}, {hourly(0, 3, 0), []int64{-1, 2, -1}}, {hourly(0, -3, 0), []int64{1, -2, 1}}, {hourly(0, 1, 1, 0), []int64{-1, 0, 0, -1}}, {hourly(0, -1, -1, 0), []int64{0, -1, -1, 0}}, {hourly(1, 0, 0, 1), []int64{0, -1, -1, 0}}, {hourly(0, 0, 0, 10), []int64{2, -1, -4, 3}}, {hourly(0, 0, 0, -10), []int64{-2, 1, 4, -3}}, {hourly(0, 0, 1), []int64{0, 0, 0}}, {hourly(0, 0, 3), []int64{0, -1, 0}}, {hourly(100000, -100000, 100000), []int64{66667, -133333, 66667}}, {hourly(-100000, 100000, -100000), []int64{-66667, 133333, -66667}},
		{readings(0, 100000, 9999, -100000, 10000, 100000), []int64{10, -100010, 100000}},
	} {
		checkResiduals(t, c.list, c.want, impl.OK)
		if want, _ := expectResiduals(c.list); !slices.Equal(want, c.want) {
			t.Errorf("residuals of %v: got %v, exactly %v", c.list, c.want, want)
		}
	}
	checkResiduals(t, nil, nil, impl.ErrState)
	checkResiduals(t, readings(), nil, impl.ErrState)
	checkResiduals(t, readings(0, 0), nil, impl.ErrState)
	checkResiduals(t, readings(10000, -100000), nil, impl.ErrState)
}

func TestPromise14ResidualsAreWhatOffAtLeaves(t *testing.T) {
	source := rand.New(rand.NewSource(146))
	for range 2000 {
		list := anyReadings(source)
		want, code := expectResiduals(list)
		checkResiduals(t, list, want, code)
		f, _ := impl.FitOf(list)
		sum := int64(0)
		for i, residual := range want {
			off, code := impl.OffAt(f, list[i].Hour)
			if off+residual != list[i].Off || code != impl.OK {
				t.Errorf("ResidualsOf(%v): got %v, but OffAt is %d, code %d", list, want, off, code)
			}
			sum += 2 * residual
		}
		// Before rounding, residuals have the sum 0.
		if sum > int64(len(list)) || sum < -int64(len(list)) {
			t.Errorf("ResidualsOf(%v): got %v, whose sum is %d / 2", list, want, sum)
		}
	}
}

func TestPromise14RatesBetween(t *testing.T) {
	for _, c := range []struct {
		list []impl.Reading
		want []int64
	}{
		{nil, nil}, {readings(), nil}, {readings(0, 0), nil}, {readings(10000, 100000), nil},
		{readings(0, 5, 24, 29), []int64{24000}}, {readings(0, 5, 12, 20, 24, 29), []int64{30000, 18000}}, {readings(0, 29, 24, 5), []int64{-24000}}, {readings(0, 7, 24, 7), []int64{0}}, {readings(5, 0, 29, 1, 53, 0, 77, 0), []int64{1000, -1000, 0}},
		// Neighbouring hours with the greatest differences.
		{readings(0, -100000, 1, 100000), []int64{4800000000}}, {readings(0, 100000, 1, -100000), []int64{-4800000000}}, {readings(9998, -100000, 9999, 100000, 10000, -100000), []int64{4800000000, -4800000000}}, {readings(0, -100000, 10000, 100000), []int64{480000}}, {readings(0, 100000, 10000, -100000), []int64{-480000}}, {readings(0, -99999, 1, 100000), []int64{4799976000}},
		// Exactly between two, and nearest to either.
		{readings(0, 0, 640, 1, 1280, 0), []int64{38, -37}}, {readings(0, 0, 9600, 1), []int64{3}}, {readings(0, 0, 9600, -1), []int64{-2}}, {readings(0, 0, 7, 1, 14, 0, 21, 2, 28, 0), []int64{3429, -3429, 6857, -6857}}, {readings(0, 0, 9, 1, 18, 0), []int64{2667, -2667}}, {readings(0, 0, 11, 1, 22, 0), []int64{2182, -2182}}, {readings(0, 0, 10000, 1), []int64{2}}, {readings(0, 0, 10000, -1), []int64{-2}}, {readings(0, 0, 9599, 1), []int64{3}}, {readings(0, 0, 9601, -1), []int64{-2}},
	} {
		checkRates(t, c.list, c.want, impl.OK)
		if want, _ := expectRates(c.list); !slices.Equal(want, c.want) {
			t.Errorf("rates between %v: got %v, exactly %v", c.list, c.want, want)
		}
	}
	// Of two readings, it is the rate of the line; and each rate belongs to both of its readings alone.
	source := rand.New(rand.NewSource(147))
	for range 1000 {
		list := anyReadings(source)
		want, code := expectRates(list)
		checkRates(t, list, want, code)
		for i := 1; i < len(list); i++ {
			f, _ := impl.FitOf(list[i-1 : i+1])
			checkDaily(t, f, want[i-1], impl.OK)
			checkRates(t, list[i-1:i+1], want[i-1:i], impl.OK)
		}
	}
	for h := int64(1); h <= 10000; h++ {
		for _, d := range []int64{1, 7, 25, 200000} {
			checkRates(t, readings(0, d/2-d, h, d/2), []int64{roundOf(big.NewRat(24000*d, h))}, impl.OK)
			checkRates(t, readings(0, d/2, h, d/2-d), []int64{roundOf(big.NewRat(-24000*d, h))}, impl.OK)
		}
	}
}

func TestPromise14JumpsOf(t *testing.T) {
	list := readings(0, 5, 12, 20, 24, 29)
	steps := hourly(0, 10, 0, -10, -10, 1, -1, 9)
	far := readings(0, -100000, 1, 100000, 2, -100000, 3, 99999, 4, -100000)
	for _, c := range []struct {
		list []impl.Reading
		by   int64
		want []int64
	}{
		{list, 10, []int64{1}}, {list, 9, []int64{1, 2}}, {list, 8, []int64{1, 2}}, {list, 15, []int64{1}}, {list, 16, nil}, {list, 0, []int64{1, 2}}, {list, 1, []int64{1, 2}}, {list, 200000, nil}, {list, 199999, nil},
		// Up and down, at the difference itself, one less and one more.
		{steps, 0, []int64{1, 2, 3, 4, 5, 6, 7}}, {steps, 1, []int64{1, 2, 3, 5, 6, 7}}, {steps, 2, []int64{1, 2, 3, 5, 6, 7}}, {steps, 3, []int64{1, 2, 3, 5, 7}}, {steps, 9, []int64{1, 2, 3, 5, 7}}, {steps, 10, []int64{1, 2, 3, 5, 7}}, {steps, 11, []int64{5}}, {steps, 12, nil},
		{hourly(0, 10), 10, []int64{1}}, {hourly(0, 10), 11, nil}, {hourly(0, 10), 9, []int64{1}}, {hourly(0, -10), 10, []int64{1}}, {hourly(0, -10), 11, nil}, {hourly(0, -10), 9, []int64{1}},
		// The greatest differences.
		{far, 200000, []int64{1, 2}}, {far, 199999, []int64{1, 2, 3, 4}}, {far, 0, []int64{1, 2, 3, 4}}, {far[:2], 200000, []int64{1}}, {far[1:3], 200000, []int64{1}}, {far[2:4], 200000, nil}, {far[3:], 200000, nil},
		{nil, 0, nil}, {readings(), 10, nil}, {readings(5, 100000), 0, nil}, {readings(5, 100000), 200000, nil}, {hourly(7, 7, 7), 0, []int64{1, 2}}, {hourly(7, 7, 7), 1, nil},
	} {
		checkJumps(t, c.list, c.by, c.want, impl.OK)
		if want, _ := expectJumps(c.list, c.by); !slices.Equal(want, c.want) {
			t.Errorf("jumps of %v by %d: got %v, otherwise %v", c.list, c.by, c.want, want)
		}
	}
	for _, bad := range append(farNumbers(), -1, -2, -10, 200001, 200002, 400000) {
		checkJumps(t, list, bad, nil, impl.ErrRange)
		checkJumps(t, nil, bad, nil, impl.ErrRange)
		checkJumps(t, readings(0, 100001), bad, nil, impl.ErrInvalid)
	}
	// All jumps are by 0, and a greater difference only leaves some of them.
	source := rand.New(rand.NewSource(148))
	for range 1000 {
		list := anyReadings(source)
		last := int64(-1)
		for by := int64(0); by <= 200000; by += 1 + 2*by + source.Int63n(3) {
			want, code := expectJumps(list, by)
			checkJumps(t, list, by, want, code)
			if last >= 0 && int64(len(want)) > last {
				t.Errorf("%v has more jumps by %d than by less", list, by)
			}
			last = int64(len(want))
		}
		if all, _ := impl.JumpsOf(list, 0); len(list) > 0 && len(all) != len(list)-1 {
			t.Errorf("JumpsOf(%v, 0): got %v", list, all)
		}
	}
}

func TestPromise14MedianOff(t *testing.T) {
	for _, c := range []struct {
		list []impl.Reading
		want int64
	}{
		{hourly(7), 7}, {hourly(-7), -7}, {hourly(0), 0}, {readings(10000, -100000), -100000},
		// An even number, where the lesser one of two is taken.
		{hourly(9, 7, -5, -6), -5}, {hourly(1, 2), 1}, {hourly(2, 1), 1}, {hourly(-1, -2), -2}, {hourly(-2, -1), -2}, {hourly(5, -5), -5}, {hourly(4, 1, 3, 2), 2}, {hourly(-4, -1, -3, -2), -3}, {hourly(100000, -100000), -100000}, {hourly(6, 5, 4, 3, 2, 1), 3},
		// An odd number.
		{hourly(3, 1, 2), 2}, {hourly(1, 2, 3), 2}, {hourly(3, 2, 1), 2}, {hourly(-3, -1, -2), -2}, {hourly(5, 4, 1, 3, 2), 3}, {hourly(100000, 0, -100000), 0}, {hourly(10, 2, 9), 9}, {hourly(-10, 2, 9, -9, 1), 1},
		// Equal values.
		{hourly(7, 7), 7}, {hourly(7, 7, 7), 7}, {hourly(7, 1, 7), 7}, {hourly(1, 7, 1), 1}, {hourly(1, 7, 7, 1), 1}, {hourly(7, 7, 1, 7), 7}, {hourly(1, 1, 7, 1), 1}, {hourly(-7, -7, -7, 0, 0, 0), -7}, {hourly(0, -7, 0, -7, 0, -7, 0), 0},
		{longRecord(60), 203}, {longRecord(59), 203}, {longRecord(58), 196},
	} {
		checkMedian(t, c.list, c.want, impl.OK)
		if want, _ := expectMedian(c.list); want != c.want {
			t.Errorf("median of %v: got %d, by counting %d", c.list, c.want, want)
		}
	}
	checkMedian(t, nil, 0, impl.ErrState)
	checkMedian(t, readings(), 0, impl.ErrState)
	source := rand.New(rand.NewSource(149))
	for range 2000 {
		list := anyReadings(source)
		want, code := expectMedian(list)
		checkMedian(t, list, want, code)
		// Only the values count, and not their order.
		mixed := slices.Clone(list)
		source.Shuffle(len(mixed), func(i, k int) { mixed[i].Off, mixed[k].Off = mixed[k].Off, mixed[i].Off })
		checkMedian(t, mixed, want, code)
	}
}

// levels returns readings of every hour, the first ones with the first sum, and so on, which are as equal as integers can be.
func levels(sumsAndCounts ...int64) []impl.Reading {
	var offs []int64
	for i := 0; i < len(sumsAndCounts); i += 2 {
		sum, count := sumsAndCounts[i], sumsAndCounts[i+1]
		for left := count; left > 0; left-- {
			off := roundOf(big.NewRat(sum, left))
			offs = append(offs, off)
			sum -= off
		}
	}
	return hourly(offs...)
}

func reversed(list []impl.Reading) []impl.Reading {
	var offs []int64
	for _, r := range slices.Backward(list) {
		offs = append(offs, r.Off)
	}
	return hourly(offs...)
}

func TestPromise14BestChange(t *testing.T) {
	for _, c := range []struct {
		offs []int64
		want int64
	}{
		{[]int64{9, 7, -5, -6}, 2},
		// Two readings.
		{[]int64{3, 3}, 1}, {[]int64{3, 5}, 1}, {[]int64{5, 3}, 1}, {[]int64{-100000, 100000}, 1}, {[]int64{0, 0}, 1},
		// Two constant levels, with the change at each place.
		{[]int64{0, 9, 9, 9, 9}, 1}, {[]int64{0, 0, 9, 9, 9}, 2}, {[]int64{0, 0, 0, 9, 9}, 3}, {[]int64{0, 0, 0, 0, 9}, 4}, {[]int64{9, 0, 0, 0, 0}, 1}, {[]int64{9, 9, 9, 9, 0}, 4}, {[]int64{-9, -9, 9}, 2}, {[]int64{-9, 9, 9}, 1}, {[]int64{5, 5, 5, 4, 4}, 3}, {[]int64{100000, 100000, -100000}, 2}, {[]int64{-100000, 100000, 100000}, 1},
		// All values are equal: all places are equally good.
		{[]int64{3, 3, 3}, 1}, {[]int64{0, 0, 0, 0, 0}, 1}, {[]int64{-100000, -100000, -100000, -100000}, 1}, {slices.Repeat([]int64{100000}, 60), 1}, {slices.Repeat([]int64{-1}, 59), 1},
		// Several places are equally good.
		{[]int64{0, 1, 0}, 1}, {[]int64{1, 0, 1}, 1}, {[]int64{0, 5, 10}, 1}, {[]int64{10, 5, 0}, 1}, {[]int64{0, 1, 0, 0, 1, 0}, 1}, {[]int64{0, 9, 9, 0}, 1}, {[]int64{0, 1, 1, 0}, 1}, {[]int64{5, 0, 5, 0, 5}, 1}, {[]int64{0, 0, 7, 0, 0}, 2}, {[]int64{0, 0, 7, 7, 0, 0}, 2}, {[]int64{0, 0, 0, 7, 0, 0, 0}, 3}, {[]int64{0, 5, 9, 5, 0}, 1}, {[]int64{1, 9, 10, 9, 1}, 1},
		// More levels than two, and slow changes.
		{[]int64{0, 0, 5, 5, 20, 20}, 4}, {[]int64{0, 0, 15, 15, 20, 20}, 2}, {[]int64{1, 2, 3, 4, 5, 6}, 3}, {[]int64{6, 5, 4, 3, 2, 1}, 3}, {[]int64{1, 2, 3, 4, 5}, 2}, {[]int64{0, 0, 100, 0}, 2}, {[]int64{0, 100, 0, 0, 0}, 2}, {[]int64{3, 1, 4, 1, 5, 9, 2, 6}, 4}, {[]int64{0, 1, 2, 9, 10, 11, 12}, 3},
		// The values count, and not their sums, nor their sizes.
		{[]int64{1000, 1001, 1001, 1001}, 1}, {[]int64{-1000, -1000, -1000, -1001}, 3}, {[]int64{99999, 100000, 100000, 100000, 100000}, 1}, {[]int64{99999, 100000, 100000, 99999, 99999}, 3},
	} {
		checkChange(t, hourly(c.offs...), c.want, impl.OK)
		if want, _ := expectChange(hourly(c.offs...)); want != c.want {
			t.Errorf("change of %v: got %d, exactly %d", c.offs, c.want, want)
		}
	}
	for count := range int64(60) {
		if count == 0 {
			continue
		}
		for _, pair := range [][2]int64{{0, 1}, {1, 0}, {-100000, 100000}, {100000, 99999}, {-7, 3}} {
			offs := append(slices.Repeat(pair[:1], int(count)), slices.Repeat(pair[1:], int(60-count))...)
			checkChange(t, hourly(offs...), count, impl.OK)
		}
	}
	checkChange(t, nil, 0, impl.ErrState)
	checkChange(t, readings(), 0, impl.ErrState)
	checkChange(t, readings(0, 0), 0, impl.ErrState)
	checkChange(t, readings(10000, -100000), 0, impl.ErrState)
}

func TestPromise14ChangesThatDifferByLittle(t *testing.T) {
	for _, c := range []struct {
		list        []impl.Reading
		want, other int64
	}{
		{levels(2632505, 28, -3244, 2, -2629261, 27), 30, 28}, {levels(2629261, 27, 3244, 1, -2632505, 29), 27, 28}, {levels(2281609, 27, -3020, 2, -2278589, 26), 29, 27}, {levels(2204333, 25, -28526, 6, -2175807, 22), 31, 25}, {levels(1268257, 16, 43713, 23, -1311970, 18), 39, 16}, {levels(1311970, 18, -43713, 23, -1268257, 16), 18, 41}, {levels(1251041, 28, -2236, 3, -1248805, 27), 31, 28}, {levels(1866991, 26, -109855, 14, -1757136, 19), 40, 26}, {levels(1094436, 11, 157505, 14, -1251941, 19), 25, 11},
	} {
		n := int64(len(c.list))
		checkChange(t, c.list, c.want, impl.OK)
		checkChange(t, reversed(c.list), n-c.want, impl.OK)
		sums := deviationsOf(c.list)
		best, other := sums[c.want-1], sums[c.other-1]
		// They are not equal, but less than a thousandth apart.
		if far := new(big.Rat).Sub(other, best); far.Sign() <= 0 || far.Cmp(big.NewRat(1, 1000)) >= 0 {
			t.Errorf("the changes %d and %d of %v have the deviations %v and %v", c.want, c.other, c.list, best, other)
		}
		for _, sign := range []int64{1, -1} {
			turned := slices.Clone(c.list)
			for i := range turned {
				turned[i].Off *= sign
				turned[i].Hour *= 100
			}
			checkChange(t, turned, c.want, impl.OK)
		}
	}
}

// roundedChange returns the best change if all sums of squares are rounded.
func roundedChange(list []impl.Reading, round func(*big.Rat) int64) int64 {
	best, bestSum := int64(0), int64(0)
	for k := 1; k < len(list); k++ {
		sum := round(deviationOf(list[:k])) + round(deviationOf(list[k:]))
		if k == 1 || sum < bestSum {
			best, bestSum = int64(k), sum
		}
	}
	return best
}

func TestPromise14ChangesOfSmallRecords(t *testing.T) {
	rounded := map[string]int{}
	lists := [][]int64{nil}
	for range 6 {
		var longer [][]int64
		for _, offs := range lists {
			for off := int64(-2); off <= 2; off++ {
				longer = append(longer, append(slices.Clone(offs), off))
			}
		}
		lists = longer
		for _, offs := range lists {
			list := hourly(offs...)
			want, code := expectChange(list)
			checkChange(t, list, want, code)
			for name, round := range map[string]func(*big.Rat) int64{"down": floorOf, "nearest": roundOf, "up": ceilingOf} {
				if roundedChange(list, round) != want {
					rounded[name]++
				}
			}
		}
	}
	if rounded["down"] < 100 || rounded["nearest"] < 100 || rounded["up"] < 100 {
		t.Errorf("the changes would be the same with rounded sums: %v", rounded)
	}
}

func TestPromise14NoChangeIsBetterThanTheBestOne(t *testing.T) {
	source := rand.New(rand.NewSource(150))
	count := map[string]int{}
	for range 1500 {
		list := anyReadings(source)
		if source.Intn(3) == 0 {
			// Equally good from both ends.
			for i := range list {
				list[i].Off = list[max(i, len(list)-1-i)].Off
			}
		}
		best, code := impl.BestChange(list)
		if len(list) < 2 {
			checkChange(t, list, 0, impl.ErrState)
			continue
		}
		if code != impl.OK || best < 1 || best >= int64(len(list)) {
			t.Fatalf("BestChange(%v): got %d, code %d", list, best, code)
		}
		sums := deviationsOf(list)
		for i, sum := range sums {
			order := sum.Cmp(sums[best-1])
			if order < 0 || order == 0 && i < int(best)-1 {
				t.Errorf("BestChange(%v): got %d, but %d is better", list, best, i+1)
			}
			if order == 0 && i > int(best)-1 {
				count["equal"]++
				break
			}
		}
		switch best {
		case 1:
			count["first"]++
		case int64(len(list)) - 1:
			count["last"]++
		default:
			count["between"]++
		}
		// Hours make no difference.
		offs := []int64{}
		for _, r := range list {
			offs = append(offs, r.Off)
		}
		checkChange(t, hourly(offs...), best, impl.OK)
	}
	if count["equal"] < 200 || count["first"] < 200 || count["last"] < 15 || count["between"] < 300 {
		t.Errorf("the results are not of all kinds: %v", count)
	}
}

func TestPromise14FunctionsOfAnyReadings(t *testing.T) {
	source := rand.New(rand.NewSource(151))
	for range 1000 {
		list := anyReadings(source)
		checkRecord(t, list, source.Int63n(200001))
		checkRecord(t, list, source.Int63n(30))
	}
	for count := range int64(61) {
		checkRecord(t, longRecord(count), 7)
	}
}

func TestPromise14ErrorsInTheirOrder(t *testing.T) {
	good := fit(2, 24, 34, 576, 696)
	full := fit(60, 17, 34, 68, 136)
	for _, bad := range badFits() {
		for _, other := range []impl.Fit{good, {}, full, bad, fit(59, 0, 0, 0, 0), fit(61, 0, 0, 0, 0), fit(-1, 0, 0, 0, 0)} {
			checkAdded(t, bad, other, impl.Fit{}, impl.ErrInvalid)
			checkAdded(t, other, bad, impl.Fit{}, impl.ErrInvalid)
		}
		checkDaily(t, bad, 0, impl.ErrInvalid)
		// Instead of ErrState, of ErrRange and of both.
		for _, hour := range append(notHoursOfDay(), 0, 12, 10000) {
			checkOff(t, bad, hour, 0, impl.ErrInvalid)
		}
	}
	for _, f := range flatFits() {
		for _, hour := range append(notHoursOfDay(), 0, 12, 10000) {
			checkOff(t, f, hour, 0, impl.ErrState)
		}
	}
	for _, bad := range badReadings() {
		checkFitOf(t, bad, impl.Fit{}, impl.ErrInvalid)
		checkResiduals(t, bad, nil, impl.ErrInvalid)
		checkRates(t, bad, nil, impl.ErrInvalid)
		for _, by := range append(farNumbers(), 0, 10, 200000, -1, 200001) {
			checkJumps(t, bad, by, nil, impl.ErrInvalid)
		}
		checkMedian(t, bad, 0, impl.ErrInvalid)
		checkChange(t, bad, 0, impl.ErrInvalid)
	}
	// One bad reading is both invalid and without a line or a change; two at the same hour as well.
	for _, bad := range [][]impl.Reading{readings(-1, 0), readings(10001, 0), readings(0, 100001), readings(0, -100001), readings(5, 1, 5, 2)} {
		checkResiduals(t, bad, nil, impl.ErrInvalid)
		checkChange(t, bad, 0, impl.ErrInvalid)
	}
}

// recordResults returns all that the functions of records tell.
func recordResults(list []impl.Reading, a, b impl.Fit, hour, by int64) string {
	var text strings.Builder
	tell := func(values ...any) { text.WriteString(fmt.Sprintln(values...)) }
	tell(impl.ValidReadings(list), impl.ValidFit(a), impl.ValidFit(b))
	f, code := impl.FitOf(list)
	tell(f, code)
	sum, code := impl.AddFits(a, b)
	tell(sum, code)
	daily, code := impl.DailyRate(a)
	tell(daily, code)
	off, code := impl.OffAt(a, hour)
	tell(off, code)
	residuals, code := impl.ResidualsOf(list)
	tell(residuals, code)
	rates, code := impl.RatesBetween(list)
	tell(rates, code)
	jumps, code := impl.JumpsOf(list, by)
	tell(jumps, code)
	// What is behind the end of a result is nobody's.
	for _, numbers := range [][]int64{residuals, rates, jumps} {
		clear(numbers[:cap(numbers)])
	}
	median, code := impl.MedianOff(list)
	tell(median, code)
	k, code := impl.BestChange(list)
	tell(k, code)
	return text.String()
}

// expectedRecords returns what recordResults should be.
func expectedRecords(list []impl.Reading, a, b impl.Fit, hour, by int64) string {
	var text strings.Builder
	tell := func(values ...any) { text.WriteString(fmt.Sprintln(values...)) }
	tell(areReadings(list), isFit(a), isFit(b))
	f, code := expectFit(list)
	tell(f, code)
	sum, code := expectAdded(a, b)
	tell(sum, code)
	daily, code := expectDaily(a)
	tell(daily, code)
	off, code := expectOff(a, hour)
	tell(off, code)
	residuals, code := expectResiduals(list)
	tell(residuals, code)
	rates, code := expectRates(list)
	tell(rates, code)
	jumps, code := expectJumps(list, by)
	tell(jumps, code)
	median, code := expectMedian(list)
	tell(median, code)
	k, code := expectChange(list)
	tell(k, code)
	return text.String()
}

func TestPromise14AllResultsWithAnyNumbers(t *testing.T) {
	source := rand.New(rand.NewSource(152))
	numbers := append(farNumbers(), -1, 0, 1, 2, 24, 59, 60, 61, 9999, 10000, 10001, 100000, 100001, -100000, -100001, 200000, 200001, 600000, 600001, 6000000, 6000000000, 6000000001, 60000000000, 60000000001)
	for range 3000 {
		list, a, b := anyReadings(source), anyFit(source), anyFit(source)
		hour, by := source.Int63n(10001), source.Int63n(200001)
		fields := []*int64{&hour, &by, &a.Count, &a.SumX, &a.SumY, &a.SumXX, &a.SumXY, &b.Count, &b.SumX, &b.SumY, &b.SumXX, &b.SumXY}
		for i := range list {
			fields = append(fields, &list[i].Hour, &list[i].Off)
		}
		for range source.Intn(4) {
			*fields[source.Intn(len(fields))] = numbers[source.Intn(len(numbers))]
		}
		got, want := recordResults(list, a, b, hour, by), expectedRecords(list, a, b, hour, by)
		if got != want {
			t.Errorf("results for %v, %v, %v, %d, %d: got %s, want %s", list, a, b, hour, by, got, want)
		}
		if again := recordResults(list, a, b, hour, by); again != got {
			t.Errorf("results for %v, %v, %v, %d, %d: got %s, but %s before", list, a, b, hour, by, again, got)
		}
	}
}

func TestPromise1ReadingsAreNotModified(t *testing.T) {
	source := rand.New(rand.NewSource(153))
	a, b := fit(2, 24, 34, 576, 696), fit(1, 12, 20, 144, 240)
	for range 1000 {
		whole := anyReadings(source)
		if len(whole) > 0 && source.Intn(4) == 0 {
			whole[source.Intn(len(whole))].Hour = -1
		}
		before := slices.Clone(whole)
		list := whole[:source.Intn(len(whole)+1)]
		want := recordResults(list, a, b, 12, 10)
		if !slices.Equal(whole, before) {
			t.Errorf("the functions of records changed %v to %v", before, whole)
		}
		if got := recordResults(slices.Clone(list), a, b, 12, 10); got != want {
			t.Errorf("results for %v: got %s, but %s before", list, got, want)
		}
	}
	for _, hour := range []int64{0, -1} {
		if nothing, empty := recordResults(nil, a, b, hour, 5), recordResults(make([]impl.Reading, 0, 3), a, b, hour, 5); nothing != empty {
			t.Errorf("nil readings lead to %s, empty ones to %s", nothing, empty)
		}
	}
}

func TestPromise1RecordsFromSeveralGoroutines(t *testing.T) {
	source := rand.New(rand.NewSource(154))
	lists := badReadings()[:20]
	fits := badFits()[:20]
	for range 100 {
		lists, fits = append(lists, anyReadings(source)), append(fits, anyFit(source))
	}
	checkFromGoroutines(t, len(lists), func(i int) string { return recordResults(lists[i], fits[i], fits[(i+1)%len(fits)], 12, 10) })
}
