package tests

import (
	"fmt"
	"math/rand"
	"regexp"
	"slices"
	"strings"
	"testing"

	"loop.example/g00921/impl"
)

// notches returns the numbers of a text such as "31 28 31", which need not be a cam.
func notches(text string) []int64 {
	var list []int64
	for _, word := range strings.Fields(text) {
		list = append(list, number(word))
	}
	return list
}

func isCam(list []int64) bool {
	for _, days := range list {
		if days < 1 || days > 60 {
			return false
		}
	}
	return len(list) >= 1 && len(list) <= 260
}

func expectCamOf(c impl.Calendar, first, years int64) ([]int64, int64) {
	if !isCalendar(c) {
		return nil, impl.ErrInvalid
	}
	if years <= 0 || years > 260 || !isYear(first) || !isYear(first+years-1) || years*int64(len(c.Months)) > 260 {
		return nil, impl.ErrRange
	}
	var cam []int64
	for year := first; year < first+years; year++ {
		cam = append(cam, lengthsIn(c, year)...)
	}
	return cam, impl.OK
}

func expectPeriod(list []int64) (int64, int64) {
	if !isCam(list) {
		return 0, impl.ErrInvalid
	}
	for p := 1; ; p++ {
		repeats := true
		for i := p; i < len(list); i++ {
			repeats = repeats && list[i] == list[i-p]
		}
		if repeats {
			return int64(p), impl.OK
		}
	}
}

func expectLevels(list []int64) ([]int64, int64) {
	if !isCam(list) {
		return nil, impl.ErrInvalid
	}
	var levels []int64
	for days := int64(1); days <= 60; days++ {
		if slices.Contains(list, days) {
			levels = append(levels, days)
		}
	}
	return levels, impl.OK
}

// camState returns the code for a calendar and a cam.
func camState(c impl.Calendar, cam []int64) int64 {
	if !isCalendar(c) || !isCam(cam) {
		return impl.ErrInvalid
	}
	if len(cam)%len(c.Months) != 0 {
		return impl.ErrState
	}
	return impl.OK
}

// faultsIn returns the faults of a year of a cam that belongs to a calendar.
func faultsIn(c impl.Calendar, cam []int64, year int64) []impl.Fault {
	months := len(c.Months)
	k := int64(len(cam) / months)
	var list []impl.Fault
	for i, right := range lengthsIn(c, year) {
		shown := cam[int(year%k)*months+i]
		if shown != right {
			list = append(list, impl.Fault{Year: year, Month: int64(i + 1), Shown: shown, Right: right})
		}
	}
	return list
}

func expectCamFaults(c impl.Calendar, cam []int64, first, last int64) ([]impl.Fault, int64) {
	if code := camState(c, cam); code != impl.OK {
		return nil, code
	}
	if !isYear(first) || !isYear(last) || first > last {
		return nil, impl.ErrRange
	}
	var list []impl.Fault
	for year := first; year <= last; year++ {
		list = append(list, faultsIn(c, cam, year)...)
		if len(list) > 40 {
			return nil, impl.ErrFull
		}
	}
	return list, impl.OK
}

// tallyOf returns, for each notch of a cam that turns once in some years, how many years want each number of days for it, by going through as many years as the least common multiple of these years and those of the cycle.
func tallyOf(c impl.Calendar, years int64) [][61]int64 {
	cycle, _, _ := expectCycle(c)
	kinds := make([][]int64, cycle)
	for year := range cycle {
		kinds[year] = lengthsIn(c, year)
	}
	months := int64(len(c.Months))
	tally := make([][61]int64, years*months)
	all := commonMultiple([]impl.LeapRule{{Every: cycle}, {Every: years}}).Int64()
	for year := range all {
		for i, days := range kinds[year%cycle] {
			tally[year%years*months+int64(i)][days]++
		}
	}
	return tally
}

// others returns how many years want other numbers of days.
func others(tally [61]int64, days int64) int64 {
	count := int64(0)
	for n, years := range tally {
		if int64(n) != days {
			count += years
		}
	}
	return count
}

func expectCount(c impl.Calendar, cam []int64) (int64, int64) {
	if code := camState(c, cam); code != impl.OK {
		return 0, code
	}
	count := int64(0)
	for i, tally := range tallyOf(c, int64(len(cam)/len(c.Months))) {
		count += others(tally, cam[i])
	}
	return count, impl.OK
}

func expectBest(c impl.Calendar, years int64) ([]int64, int64, int64) {
	if !isCalendar(c) {
		return nil, 0, impl.ErrInvalid
	}
	if years <= 0 || years > 260 || years*int64(len(c.Months)) > 260 {
		return nil, 0, impl.ErrRange
	}
	var cam []int64
	count := int64(0)
	for _, tally := range tallyOf(c, years) {
		best := int64(1)
		for days := range int64(61) {
			if others(tally, days) < others(tally, best) {
				best = days
			}
		}
		cam = append(cam, best)
		count += others(tally, best)
	}
	return cam, count, impl.OK
}

func expectNext(c impl.Calendar, cam []int64, first int64) (impl.Fault, int64) {
	if code := camState(c, cam); code != impl.OK {
		return impl.Fault{}, code
	}
	if !isYear(first) {
		return impl.Fault{}, impl.ErrRange
	}
	for year := first; year <= 9999; year++ {
		if list := faultsIn(c, cam, year); len(list) > 0 {
			return list[0], impl.OK
		}
	}
	return impl.Fault{}, impl.ErrNotFound
}

func expectCamText(list []int64) string {
	if !isCam(list) {
		return ""
	}
	return strings.Trim(fmt.Sprint(list), "[]")
}

var depthPattern = regexp.MustCompile(`\A(?:[1-9]|[1-5][0-9]|60)\z`)

func readCamByPattern(s string) ([]int64, bool) {
	words := strings.Split(s, " ")
	for _, word := range words {
		if !depthPattern.MatchString(word) {
			return nil, false
		}
	}
	return notches(s), len(words) <= 260
}

func checkCamOf(t *testing.T, c impl.Calendar, first, years int64, want []int64, wantCode int64) {
	t.Helper()
	if got, code := impl.CamOf(c, first, years); !slices.Equal(got, want) || code != wantCode {
		t.Errorf("CamOf(%v, %d, %d): got %v, code %d, want %v, code %d", c, first, years, got, code, want, wantCode)
	}
}

func checkPeriod(t *testing.T, list []int64, want, wantCode int64) {
	t.Helper()
	if got, code := impl.CamPeriod(list); got != want || code != wantCode {
		t.Errorf("CamPeriod(%v): got %d, code %d, want %d, code %d", list, got, code, want, wantCode)
	}
}

func checkLevels(t *testing.T, list, want []int64, wantCode int64) {
	t.Helper()
	if got, code := impl.CamLevels(list); !slices.Equal(got, want) || code != wantCode {
		t.Errorf("CamLevels(%v): got %v, code %d, want %v, code %d", list, got, code, want, wantCode)
	}
}

func checkCamFaults(t *testing.T, c impl.Calendar, cam []int64, first, last int64, want []impl.Fault, wantCode int64) {
	t.Helper()
	if got, code := impl.CamFaults(c, cam, first, last); !slices.Equal(got, want) || code != wantCode {
		t.Errorf("CamFaults(%v, %v, %d, %d): got %v, code %d, want %v, code %d", c, cam, first, last, got, code, want, wantCode)
	}
}

func checkCount(t *testing.T, c impl.Calendar, cam []int64, want, wantCode int64) {
	t.Helper()
	if got, code := impl.FaultCount(c, cam); got != want || code != wantCode {
		t.Errorf("FaultCount(%v, %v): got %d, code %d, want %d, code %d", c, cam, got, code, want, wantCode)
	}
}

func checkNext(t *testing.T, c impl.Calendar, cam []int64, first int64, want impl.Fault, wantCode int64) {
	t.Helper()
	if got, code := impl.NextFault(c, cam, first); got != want || code != wantCode {
		t.Errorf("NextFault(%v, %v, %d): got %v, code %d, want %v, code %d", c, cam, first, got, code, want, wantCode)
	}
}

func checkBestCam(t *testing.T, c impl.Calendar, years int64, want []int64, wantCount, wantCode int64) {
	t.Helper()
	if got, count, code := impl.BestCam(c, years); !slices.Equal(got, want) || count != wantCount || code != wantCode {
		t.Errorf("BestCam(%v, %d): got %v, count %d, code %d, want %v, count %d, code %d", c, years, got, count, code, want, wantCount, wantCode)
	}
}

// checkReadCam compares ReadCam with a pattern, and returns whether there is a cam with the text.
func checkReadCam(t *testing.T, s string) bool {
	t.Helper()
	want, is := readCamByPattern(s)
	if !is {
		want = nil
	}
	got, ok := impl.ReadCam(s)
	if !slices.Equal(got, want) || ok != is {
		t.Errorf("ReadCam(%.300q): got %v %t, want %v %t", s, got, ok, want, is)
	}
	return ok
}

// checkList checks everything that concerns a list alone.
func checkList(t *testing.T, list []int64) {
	t.Helper()
	if got := impl.ValidCam(list); got != isCam(list) {
		t.Errorf("ValidCam(%v): got %t", list, got)
	}
	period, code := expectPeriod(list)
	checkPeriod(t, list, period, code)
	levels, code := expectLevels(list)
	checkLevels(t, list, levels, code)
	text := impl.CamText(list)
	if text != expectCamText(list) {
		t.Errorf("CamText(%v): got %q, want %q", list, text, expectCamText(list))
	}
	if read, ok := impl.ReadCam(text); ok != isCam(list) || ok && !slices.Equal(read, list) || !ok && read != nil {
		t.Errorf("ReadCam(%q): got %v %t, want %v", text, read, ok, list)
	}
}

// checkYears checks everything that depends on a cam and some years of a calendar.
func checkYears(t *testing.T, c impl.Calendar, cam []int64, first, last int64) {
	t.Helper()
	faults, code := expectCamFaults(c, cam, first, last)
	checkCamFaults(t, c, cam, first, last, faults, code)
	next, code := expectNext(c, cam, first)
	checkNext(t, c, cam, first, next, code)
}

// camOf returns the days of the months of some years.
func camOf(c impl.Calendar, first, years int64) []int64 {
	cam, code := impl.CamOf(c, first, years)
	if code != impl.OK {
		panic(code)
	}
	return cam
}

func bestOf(c impl.Calendar, years int64) []int64 {
	cam, _, code := impl.BestCam(c, years)
	if code != impl.OK {
		panic(code)
	}
	return cam
}

// anyYears returns how many years a cam for a calendar may have.
func anyYears(c impl.Calendar, source *rand.Rand) int64 {
	most := int64(260 / len(c.Months))
	return min(most, []int64{1, 2, 3, 4, 7, 8, 19, 20, most, 1 + source.Int63n(most), 1 + source.Int63n(most)}[source.Intn(11)])
}

// anyCam returns a cam that belongs to a calendar, mostly with few faults.
func anyCam(c impl.Calendar, source *rand.Rand) []int64 {
	years := anyYears(c, source)
	var cam []int64
	switch source.Intn(4) {
	case 0:
		cam, _ = expectCamOf(c, upTo(10000-years, source), years)
	case 1:
		for range years * int64(len(c.Months)) {
			cam = append(cam, 1+upTo(59, source))
		}
	case 2:
		cam = slices.Repeat(lengthsIn(c, 0), int(years))
	default:
		cam, _, _ = expectBest(c, years)
	}
	for range source.Intn(4) {
		cam[source.Intn(len(cam))] = 1 + upTo(59, source)
	}
	return cam
}

// badLists are no cams.
func badLists() [][]int64 {
	list := [][]int64{nil, {}}
	for _, count := range []int{261, 262, 520, 100000} {
		list = append(list, slices.Repeat(notches("30"), count))
	}
	for _, bad := range append(farNumbers(), -1, 0, 61, -30, 62, 365) {
		list = append(list, []int64{bad}, []int64{bad, 30, 31}, []int64{30, bad, 31}, []int64{30, 31, bad}, slices.Repeat([]int64{bad}, 12), slices.Repeat([]int64{bad}, 261))
		long := slices.Repeat(notches("30"), 260)
		long[259] = bad
		list = append(list, long)
	}
	return list
}

// goodLists are cams, some of them at the limits.
func goodLists() [][]int64 {
	list := [][]int64{notches("1"), notches("60"), notches("30 31"), notches("1 60"), notches("60 1"), slices.Repeat(notches("1"), 260), slices.Repeat(notches("60"), 260), slices.Repeat(notches("30"), 259), slices.Repeat(notches("31 28"), 130)}
	long := slices.Repeat(notches("30"), 260)
	long[0], long[259] = 1, 60
	return append(list, long)
}

func TestPromise17Limits(t *testing.T) {
	if impl.MaxNotches != 260 || impl.MaxFaults != 40 {
		t.Errorf("limits: got %d and %d, want 260 and 40", impl.MaxNotches, impl.MaxFaults)
	}
}

func TestPromise17ValidCam(t *testing.T) {
	for _, c := range []struct {
		list []int64
		want bool
	}{
		{nil, false}, {[]int64{}, false}, {notches("1"), true}, {notches("60"), true}, {notches("0"), false}, {notches("61"), false}, {notches("-1"), false}, {notches("30 31"), true},
		{notches("1 0"), false}, {notches("0 1"), false}, {notches("1 61"), false}, {notches("61 1"), false}, {notches("-1 1"), false}, {notches("1 -1"), false}, {notches("30 0 30"), false}, {notches("30 61 30"), false}, {notches("1 2 60 59"), true},
		{slices.Repeat(notches("1"), 259), true}, {slices.Repeat(notches("1"), 260), true}, {slices.Repeat(notches("1"), 261), false}, {slices.Repeat(notches("60"), 260), true}, {slices.Repeat(notches("60"), 261), false}, {slices.Repeat(notches("60"), 1000000), false},
	} {
		if got := impl.ValidCam(c.list); got != c.want || isCam(c.list) != c.want {
			t.Errorf("ValidCam(%.100v): got %t, want %t", c.list, got, c.want)
		}
	}
	for _, list := range goodLists() {
		if !impl.ValidCam(list) {
			t.Errorf("ValidCam(%v): got false, want true", list)
		}
	}
	for _, list := range badLists() {
		if impl.ValidCam(list) {
			t.Errorf("ValidCam(%.100v): got true, want false", list)
		}
	}
	// Each number at each place.
	for count := range 262 {
		list := slices.Repeat(notches("30"), count)
		checkList(t, list)
		for _, at := range []int{0, 1, count / 2, count - 2, count - 1} {
			if at < 0 || at >= count {
				continue
			}
			for _, days := range []int64{-1, 0, 1, 59, 60, 61} {
				list[at] = days
				if got := impl.ValidCam(list); got != isCam(list) {
					t.Errorf("ValidCam(%v): got %t", list, got)
				}
			}
			list[at] = 30
		}
	}
	for days := int64(-70); days < 140; days++ {
		checkList(t, []int64{days})
	}
}

func TestPromise17CamOf(t *testing.T) {
	gregorian, common, leap := given("gregorian"), "31 28 31 30 31 30 31 31 30 31 30 31 ", "31 29 31 30 31 30 31 31 30 31 30 31 "
	for _, c := range []struct {
		calendar     impl.Calendar
		first, years int64
		want         string
	}{
		{gregorian, 2024, 1, leap}, {gregorian, 2023, 1, common}, {gregorian, 2023, 2, common + leap}, {gregorian, 1899, 3, common + common + common}, {gregorian, 1999, 3, common + leap + common}, {gregorian, 0, 4, leap + common + common + common}, {gregorian, 0, 1, leap}, {gregorian, 9999, 1, common}, {gregorian, 9996, 4, leap + common + common + common}, {gregorian, 9979, 21, common + strings.Repeat(leap+common+common+common, 5)},
		{given("julian"), 1899, 3, common + leap + common}, {given("egyptian"), 7, 1, strings.Repeat("30 ", 12) + "5"}, {given("fixed"), 2000, 1, strings.Repeat("28 ", 12) + "30"}, {given("fixed"), 1900, 1, strings.Repeat("28 ", 12) + "29"}, {given("egyptian"), 9980, 20, strings.Repeat(strings.Repeat("30 ", 12)+"5 ", 20)},
		{own("a 1 2", "3 1 yes"), 0, 7, "1 2 1 1 2 1 1"}, {own("a 1 2", "3 1 yes"), 2, 3, "1 1 2"}, {own("a 1 2, b 4 3", "2 0 yes"), 9998, 2, "2 3 1 4"}, {own("a 60", ""), 0, 260, strings.Repeat("60 ", 260)}, {own("a 1", ""), 9740, 260, strings.Repeat("1 ", 260)},
	} {
		checkCamOf(t, c.calendar, c.first, c.years, notches(c.want), impl.OK)
	}
	for _, count := range []int{1, 2, 3, 4, 5, 7, 10, 12, 13, 14, 19, 20} {
		c := impl.Calendar{Name: "own", Months: manyMonths(count), Rules: rules("3 1 yes"), Week: 7}
		// With exactly MaxNotches numbers, or as near as years allow, and with the next possible number above.
		most := int64(260 / count)
		for _, first := range []int64{0, 1, 4711, 10000 - most - 1, 10000 - most, 10000 - most + 1, 9999, 10000, -1} {
			for _, years := range []int64{-1, 0, 1, 2, most - 1, most, most + 1, most + 2, 260, 261} {
				want, code := expectCamOf(c, first, years)
				checkCamOf(t, c, first, years, want, code)
			}
		}
		checkCamOf(t, c, 10000-most, most+1, nil, impl.ErrRange)
		if cam := camOf(c, 10000-most, most); int64(len(cam)) != most*int64(count) {
			t.Errorf("CamOf(%v, %d, %d): got %d numbers", c, 10000-most, most, len(cam))
		}
	}
}

func TestPromise17CamOfOtherYears(t *testing.T) {
	far := append(notYears(), 0, 1, 9999, 9740, 260)
	for _, c := range append(goodCalendars(), badCalendars()[:30]...) {
		wantCode := int64(impl.ErrRange)
		if !isCalendar(c) {
			wantCode = impl.ErrInvalid
		}
		for _, first := range notYears() {
			for _, years := range append(far, 2, 4) {
				checkCamOf(t, c, first, years, nil, wantCode)
			}
		}
		for _, years := range append(notYears(), 0, 261, 262, 1000) {
			for _, first := range far {
				checkCamOf(t, c, first, years, nil, wantCode)
			}
		}
	}
	// A sum of both that is a year again by wraparound.
	for _, c := range [][2]int64{{greatest, greatest}, {least, least}, {greatest, 2}, {greatest - 9, 20}, {least + 1, greatest}, {-1, 2}, {-5, 10}, {1 << 62, 1 << 62}, {5, greatest}, {10000, greatest}, {1, 1<<63 - 1}, {2, 1 << 61}, {0, 1 << 60}, {0, 1<<62 + 1}, {least, greatest}, {greatest, least}, {0, least}, {9999, least + 1}} {
		for _, calendar := range goodCalendars() {
			checkCamOf(t, calendar, c[0], c[1], nil, impl.ErrRange)
		}
	}
}

func TestPromise17CamOfIsDaysOfMonths(t *testing.T) {
	source := rand.New(rand.NewSource(171))
	list := goodCalendars()
	for range 200 {
		list = append(list, anyCalendar(source))
	}
	for _, c := range list {
		for range 10 {
			years := anyYears(c, source)
			first := upTo(10000-years, source)
			cam, code := impl.CamOf(c, first, years)
			want, wantCode := expectCamOf(c, first, years)
			if !slices.Equal(cam, want) || code != wantCode || !impl.ValidCam(cam) {
				t.Fatalf("CamOf(%v, %d, %d): got %v, code %d, want %v, code %d", c, first, years, cam, code, want, wantCode)
			}
			for i, days := range cam {
				year, month := first+int64(i/len(c.Months)), int64(i%len(c.Months)+1)
				if inMonth, _ := impl.DaysInMonth(c, year, month); inMonth != days {
					t.Errorf("CamOf(%v, %d, %d): got %d days for month %d of %d, want %d", c, first, years, days, month, year, inMonth)
				}
			}
			// As each year is shown by its remainder, these years have no faults if the first one has the remainder 0.
			if first%years == 0 {
				checkCamFaults(t, c, cam, first, first+years-1, nil, impl.OK)
			}
			faults, code := expectCamFaults(c, cam, first, first+years-1)
			checkCamFaults(t, c, cam, first, first+years-1, faults, code)
		}
	}
}

func TestPromise17CamPeriod(t *testing.T) {
	for _, c := range []struct {
		list string
		want int64
	}{
		{"31 28 31 28 31", 2}, {"30", 1}, {"30 30", 1}, {"30 30 30 30 30", 1}, {"30 31", 2}, {"1 2 3 4 5", 5}, {"5 1 2 5", 3}, {"5 1 2 5 1", 3}, {"5 1 2 5 2", 5}, {"5 1 1 5", 3}, {"5 5 1 5 5", 3}, {"5 5 1 5", 3}, {"5 1 5 5", 3}, {"1 1 1 2", 4}, {"2 1 1 1", 4}, {"1 2 1 2 1 2", 2}, {"1 2 1 2 1 3", 6}, {"1 2 3 1 2 3 1", 3}, {"1 2 1 1 2 1 1 2", 3}, {"1 2 1 2 2 1 2 1", 5}, {"1 1 2 1 1 1 2", 4}, {"1 2 3 4 1", 4}, {"60 1 60", 2}, {"31 29 31 30", 4},
	} {
		checkPeriod(t, notches(c.list), c.want, impl.OK)
	}
	for _, count := range []int{2, 3, 100, 259, 260} {
		equal := slices.Repeat(notches("30"), count)
		checkPeriod(t, equal, 1, impl.OK)
		last, first := slices.Clone(equal), slices.Clone(equal)
		last[count-1], first[0] = 29, 31
		checkPeriod(t, last, int64(count), impl.OK)
		checkPeriod(t, first, int64(count), impl.OK)
		ends := slices.Clone(equal)
		ends[0], ends[count-1] = 1, 1
		checkPeriod(t, ends, max(int64(count)-1, 1), impl.OK)
	}
	checkPeriod(t, camOf(given("gregorian"), 0, 20), 48, impl.OK)
	checkPeriod(t, camOf(given("gregorian"), 1, 21), 48, impl.OK)
	checkPeriod(t, camOf(given("gregorian"), 1897, 8), 95, impl.OK)
	checkPeriod(t, camOf(given("gregorian"), 1, 3), 12, impl.OK)
	checkPeriod(t, camOf(given("egyptian"), 1, 20), 13, impl.OK)
	for _, list := range badLists() {
		checkPeriod(t, list, 0, impl.ErrInvalid)
	}
}

func TestPromise17PeriodsAndLevelsOfAllShortLists(t *testing.T) {
	var try func(list []int64, left int, some []int64)
	try = func(list []int64, left int, some []int64) {
		checkList(t, list)
		if left == 0 {
			return
		}
		for _, days := range some {
			try(append(slices.Clone(list), days), left-1, some)
		}
	}
	try(nil, 10, notches("1 2"))
	try(nil, 6, notches("60 30 1"))
	try(nil, 4, notches("0 1 60 61 -1"))
	source := rand.New(rand.NewSource(172))
	for range 3000 {
		// A beginning that is repeated, also in part, with few changes.
		var list []int64
		for range 1 + source.Intn(30) {
			list = append(list, 1+upTo(59, source))
		}
		list = slices.Repeat(list, 1+source.Intn(9))
		list = list[:min(1+source.Intn(len(list)), 261)]
		for range source.Intn(3) {
			list[source.Intn(len(list))] = upTo(61, source)
		}
		checkList(t, list)
	}
}

func TestPromise17CamLevels(t *testing.T) {
	for _, c := range [][2]string{
		{"31 28 31 30", "28 30 31"}, {"30", "30"}, {"30 30 30", "30"}, {"60 59 3 2 1", "1 2 3 59 60"}, {"1 2 3", "1 2 3"}, {"3 1 2 1 3", "1 2 3"}, {"10 9 100", ""}, {"10 9 8", "8 9 10"}, {"60 1", "1 60"}, {"1 60 1 60", "1 60"}, {"5 5 4 4 5 5", "4 5"}, {"2 2 1", "1 2"}, {"1 2 2", "1 2"},
	} {
		if c[1] == "" {
			checkLevels(t, notches(c[0]), nil, impl.ErrInvalid)
			continue
		}
		checkLevels(t, notches(c[0]), notches(c[1]), impl.OK)
	}
	var all, falling []int64
	for days := int64(1); days <= 60; days++ {
		all, falling = append(all, days), append(falling, 61-days)
	}
	checkLevels(t, all, all, impl.OK)
	checkLevels(t, falling, all, impl.OK)
	checkLevels(t, slices.Repeat(falling, 4), all, impl.OK)
	checkLevels(t, slices.Repeat(notches("31"), 260), notches("31"), impl.OK)
	checkLevels(t, camOf(given("gregorian"), 2000, 4), notches("28 29 30 31"), impl.OK)
	checkLevels(t, camOf(given("gregorian"), 2001, 3), notches("28 30 31"), impl.OK)
	checkLevels(t, camOf(given("fixed"), 2000, 4), notches("28 29 30"), impl.OK)
	for _, list := range badLists() {
		checkLevels(t, list, nil, impl.ErrInvalid)
	}
}

func TestPromise17CamsBelongToCalendars(t *testing.T) {
	for count := 1; count <= 20; count++ {
		c := impl.Calendar{Name: "own", Months: manyMonths(count), Rules: rules("2 1 yes"), Week: 7}
		for length := 1; length <= 261; length++ {
			list := slices.Repeat(lengthsIn(c, 0), 261)[:length]
			want := int64(impl.OK)
			switch {
			case length == 261:
				want = impl.ErrInvalid
			case length%count != 0:
				want = impl.ErrState
			}
			if _, code := impl.FaultCount(c, list); code != want {
				t.Errorf("FaultCount of %d notches and %d months: got code %d, want %d", length, count, code, want)
			}
			// In the year 0 there are no faults.
			checkCamFaults(t, c, list, 0, 0, nil, want)
			if _, code := impl.NextFault(c, list, 0); code != want {
				t.Errorf("NextFault of %d notches and %d months: got code %d, want %d", length, count, code, want)
			}
		}
	}
	gregorian := given("gregorian")
	for _, length := range []int{1, 2, 6, 11, 13, 23, 25, 239, 241, 251, 253, 260} {
		cam := slices.Repeat(notches("30"), length)
		checkCamFaults(t, gregorian, cam, 0, 0, nil, impl.ErrState)
		checkCount(t, gregorian, cam, 0, impl.ErrState)
		checkNext(t, gregorian, cam, 0, impl.Fault{}, impl.ErrState)
	}
	checkCount(t, given("egyptian"), camOf(gregorian, 2001, 1), 0, impl.ErrState)
	checkCount(t, given("egyptian"), slices.Repeat(notches("30"), 13), 1, impl.OK)
}

func TestPromise17CamFaults(t *testing.T) {
	gregorian, julian := given("gregorian"), given("julian")
	year, four := camOf(gregorian, 2001, 1), camOf(gregorian, 2000, 4)
	plain, wave := own("a 30", ""), own("a 30 31, b 5 6", "2 1 yes")
	for _, c := range []struct {
		calendar    impl.Calendar
		cam         []int64
		first, last int64
		want        []impl.Fault
	}{
		{gregorian, year, 2001, 2003, nil}, {gregorian, year, 2003, 2004, []impl.Fault{{Year: 2004, Month: 2, Shown: 28, Right: 29}}}, {gregorian, year, 1896, 1904, []impl.Fault{{Year: 1896, Month: 2, Shown: 28, Right: 29}, {Year: 1904, Month: 2, Shown: 28, Right: 29}}}, {gregorian, year, 0, 0, []impl.Fault{{Year: 0, Month: 2, Shown: 28, Right: 29}}}, {gregorian, year, 9999, 9999, nil}, {gregorian, year, 9996, 9999, []impl.Fault{{Year: 9996, Month: 2, Shown: 28, Right: 29}}},
		{gregorian, four, 1890, 1910, []impl.Fault{{Year: 1900, Month: 2, Shown: 29, Right: 28}}}, {gregorian, four, 1901, 2099, nil}, {gregorian, four, 1900, 2100, []impl.Fault{{Year: 1900, Month: 2, Shown: 29, Right: 28}, {Year: 2100, Month: 2, Shown: 29, Right: 28}}}, {julian, four, 0, 9999, nil}, {julian, camOf(julian, 2001, 4), 3, 4, []impl.Fault{{Year: 3, Month: 2, Shown: 29, Right: 28}, {Year: 4, Month: 2, Shown: 28, Right: 29}}},
		// Faults in the first and in the last month.
		{plain, notches("31"), 7, 9, []impl.Fault{{Year: 7, Month: 1, Shown: 31, Right: 30}, {Year: 8, Month: 1, Shown: 31, Right: 30}, {Year: 9, Month: 1, Shown: 31, Right: 30}}}, {wave, notches("30 5"), 4, 5, []impl.Fault{{Year: 5, Month: 1, Shown: 30, Right: 31}, {Year: 5, Month: 2, Shown: 5, Right: 6}}}, {wave, notches("31 5"), 4, 5, []impl.Fault{{Year: 4, Month: 1, Shown: 31, Right: 30}, {Year: 5, Month: 2, Shown: 5, Right: 6}}}, {wave, notches("30 6"), 4, 5, []impl.Fault{{Year: 4, Month: 2, Shown: 6, Right: 5}, {Year: 5, Month: 1, Shown: 30, Right: 31}}}, {wave, notches("30 5 31 6"), 0, 9999, nil}, {wave, notches("30 5 31 5"), 1, 3, []impl.Fault{{Year: 1, Month: 2, Shown: 5, Right: 6}, {Year: 3, Month: 2, Shown: 5, Right: 6}}}, {wave, notches("1 5 31 6"), 1, 3, []impl.Fault{{Year: 2, Month: 1, Shown: 1, Right: 30}}},
		// Three years, which do not divide the cycle, from years that are no multiples of three.
		{wave, notches("30 5 31 6 30 5"), 0, 5, []impl.Fault{{Year: 3, Month: 1, Shown: 30, Right: 31}, {Year: 3, Month: 2, Shown: 5, Right: 6}, {Year: 4, Month: 1, Shown: 31, Right: 30}, {Year: 4, Month: 2, Shown: 6, Right: 5}, {Year: 5, Month: 1, Shown: 30, Right: 31}, {Year: 5, Month: 2, Shown: 5, Right: 6}}}, {wave, notches("30 5 31 6 30 5"), 4, 4, []impl.Fault{{Year: 4, Month: 1, Shown: 31, Right: 30}, {Year: 4, Month: 2, Shown: 6, Right: 5}}}, {wave, notches("30 5 31 6 30 5"), 6, 8, nil}, {wave, notches("30 5 31 6 30 5"), 9998, 9998, nil}, {wave, notches("30 5 31 6 30 5"), 9999, 9999, []impl.Fault{{Year: 9999, Month: 1, Shown: 30, Right: 31}, {Year: 9999, Month: 2, Shown: 5, Right: 6}}},
	} {
		checkCamFaults(t, c.calendar, c.cam, c.first, c.last, c.want, impl.OK)
		checkYears(t, c.calendar, c.cam, c.first, c.last)
	}
}

func TestPromise17AsManyFaultsAsAllowed(t *testing.T) {
	for count := 1; count <= 20; count++ {
		c := impl.Calendar{Name: "own", Months: manyMonths(count), Rules: rules("4 2 yes"), Week: 7}
		// Months that are always wrong, and one that is wrong in leap years, or in others.
		cam := slices.Repeat(lengthsIn(c, 0), 260/count)
		for i := range cam {
			if i%count < count-1 {
				cam[i] = cam[i]%60 + 1
			}
		}
		for _, first := range []int64{0, 1, 2, 3, 4, 1000, 9960, 9999} {
			for last := first; last <= min(first+200, 9999); last++ {
				want, code := expectCamFaults(c, cam, first, last)
				checkCamFaults(t, c, cam, first, last, want, code)
				if code == impl.ErrFull {
					break
				}
			}
		}
		checkCamFaults(t, c, cam, 0, 9999, nil, impl.ErrFull)
	}
	plain, mixed := own("a 30", ""), own("a 30, b 28 29", "4 0 yes")
	for _, first := range []int64{0, 1, 5000, 9959} {
		for _, cam := range []string{"29", "31 29", "1 2 3 4 5 6 7"} {
			list, code := impl.CamFaults(plain, notches(cam), first, first+39)
			if len(list) != 40 || code != impl.OK {
				t.Errorf("40 years of faults of the cam %s: got %d, code %d", cam, len(list), code)
			}
			checkCamFaults(t, plain, notches(cam), first, first+40, nil, impl.ErrFull)
		}
	}
	// The last one of just enough faults, and of one too many, is in the last month of the last year.
	for _, c := range []struct {
		first, last, count int64
	}{{0, 31, 40}, {1, 31, 38}, {1, 32, 40}, {9, 40, 40}, {9968, 9999, 40}, {9969, 9999, 38}} {
		list, code := impl.CamFaults(mixed, notches("29 28"), c.first, c.last)
		if int64(len(list)) != c.count || code != impl.OK {
			t.Errorf("faults of %d to %d: got %d, code %d, want %d", c.first, c.last, len(list), code, c.count)
		}
	}
	for _, c := range [][2]int64{{0, 32}, {1, 33}, {2, 36}, {4, 36}, {9967, 9999}, {0, 9999}} {
		checkCamFaults(t, mixed, notches("29 28"), c[0], c[1], nil, impl.ErrFull)
	}
	// None of the faults behind the years counts.
	checkCamFaults(t, own("a 30 31", "1000 999 yes"), notches("30"), 0, 998, nil, impl.OK)
	checkCamFaults(t, own("a 30 31", "1000 999 yes"), notches("31"), 999, 999, nil, impl.OK)
	checkCamFaults(t, own("a 30 31", "1000 999 yes"), notches("31"), 999, 9999, nil, impl.ErrFull)
}

func TestPromise17FaultCount(t *testing.T) {
	gregorian, julian := given("gregorian"), given("julian")
	longest := own("a 30 31", "1000 999 yes, 16 15 yes")
	for _, c := range []struct {
		calendar impl.Calendar
		cam      []int64
		want     int64
	}{
		{gregorian, camOf(gregorian, 2001, 1), 97}, {gregorian, camOf(gregorian, 2000, 1), 303}, {gregorian, camOf(gregorian, 2000, 4), 3}, {gregorian, camOf(gregorian, 2001, 4), 197}, {gregorian, camOf(gregorian, 2001, 2), 97}, {gregorian, camOf(gregorian, 2001, 3), 291}, {gregorian, camOf(gregorian, 2000, 20), 3}, {gregorian, camOf(gregorian, 2000, 8), 3}, {gregorian, camOf(gregorian, 2000, 12), 9}, {gregorian, camOf(gregorian, 2000, 3), 2*97 + 303}, {gregorian, slices.Repeat(notches("1"), 12), 4800}, {gregorian, slices.Repeat(notches("31"), 12), 2000}, {gregorian, slices.Repeat(notches("31"), 36), 6000},
		{julian, camOf(julian, 2000, 4), 0}, {julian, camOf(julian, 2001, 1), 1}, {julian, camOf(julian, 2000, 1), 3}, {julian, camOf(julian, 2000, 12), 0}, {julian, camOf(julian, 2000, 3), 5}, {julian, camOf(julian, 2001, 3), 3}, {julian, camOf(julian, 2000, 2), 1},
		// A cycle of one year.
		{own("a 30", ""), notches("30"), 0}, {own("a 30", ""), notches("31"), 1}, {own("a 30", ""), notches("31 30 29"), 2}, {own("a 30 31", "1 0 yes"), notches("30"), 1}, {own("a 30 31", "1 0 yes"), notches("31"), 0}, {own("a 30 31", "1 0 no"), notches("31"), 1}, {own("a 30", ""), slices.Repeat(notches("29"), 260), 260}, {given("egyptian"), slices.Repeat(notches("30"), 260), 20},
		// The longest cycle, with 2 + 125 leap years, of which one is both.
		{longest, notches("30"), 126}, {longest, notches("31"), 1874}, {longest, notches("29"), 2000}, {longest, slices.Repeat(notches("30"), 7), 7 * 126}, {longest, slices.Repeat(notches("30"), 20), 126}, {longest, slices.Repeat(notches("29"), 260), 26000}, {longest, slices.Repeat(notches("30"), 260), 13 * 126}, {longest, slices.Repeat(notches("30"), 259), 259 * 126}, {longest, slices.Repeat(notches("31"), 251), 251 * 1874}, {longest, slices.Repeat(notches("29"), 259), 518000},
		// A leap year in every second year, with cams of three years.
		{own("a 30 31", "2 1 yes"), notches("30 31 30"), 3}, {own("a 30 31", "2 1 yes"), notches("30 31"), 0}, {own("a 30 31", "2 1 yes"), notches("31 30"), 2}, {own("a 30 31", "2 1 yes"), notches("30 30 30 30"), 2},
	} {
		checkCount(t, c.calendar, c.cam, c.want, impl.OK)
		want, code := expectCount(c.calendar, c.cam)
		if want != c.want || code != impl.OK {
			t.Errorf("faults of %v in %v: expected %d, want %d", c.cam, c.calendar, want, c.want)
		}
	}
	source := rand.New(rand.NewSource(173))
	for range 400 {
		c := anyCalendar(source)
		cam := anyCam(c, source)
		want, code := expectCount(c, cam)
		checkCount(t, c, cam, want, code)
	}
}

func TestPromise17FaultCountIsTheNumberOfAllFaults(t *testing.T) {
	source := rand.New(rand.NewSource(174))
	counted := 0
	for range 150 {
		c := anyCalendar(source)
		cam := anyCam(c, source)
		years := commonMultiple(append(slices.Clone(c.Rules), impl.LeapRule{Every: int64(len(cam) / len(c.Months))})).Int64()
		if years > 10000 {
			continue
		}
		counted++
		count := int64(0)
		for year := range years {
			list, code := impl.CamFaults(c, cam, year, year)
			if code != impl.OK {
				t.Fatalf("CamFaults(%v, %v, %d, %d): got code %d", c, cam, year, year, code)
			}
			count += int64(len(list))
		}
		checkCount(t, c, cam, count, impl.OK)
		// Faults repeat after so many years.
		first := source.Int63n(10000)
		if first+years <= 9999 {
			a, _ := impl.CamFaults(c, cam, first, first)
			b, _ := impl.CamFaults(c, cam, first+years, first+years)
			for i := range b {
				b[i].Year -= years
			}
			if !slices.Equal(a, b) {
				t.Errorf("faults of %v in %v: %v, but %v %d years later", cam, c, a, b, years)
			}
		}
		// There are faults up to MaxYear if there are any.
		_, code := impl.NextFault(c, cam, 0)
		if (code == impl.OK) != (count > 0) {
			t.Errorf("NextFault(%v, %v, 0): got code %d, but there are %d faults", c, cam, code, count)
		}
	}
	if counted < 50 {
		t.Errorf("only %d cams were tried", counted)
	}
}

func TestPromise17NextFault(t *testing.T) {
	gregorian, julian := given("gregorian"), given("julian")
	year, four := camOf(gregorian, 2001, 1), camOf(gregorian, 2000, 4)
	rare := own("a 30 31", "1000 999 yes")
	for _, c := range []struct {
		calendar impl.Calendar
		cam      []int64
		first    int64
		want     impl.Fault
	}{
		{gregorian, four, 0, impl.Fault{Year: 100, Month: 2, Shown: 29, Right: 28}}, {gregorian, four, 100, impl.Fault{Year: 100, Month: 2, Shown: 29, Right: 28}}, {gregorian, four, 101, impl.Fault{Year: 200, Month: 2, Shown: 29, Right: 28}}, {gregorian, four, 301, impl.Fault{Year: 500, Month: 2, Shown: 29, Right: 28}}, {gregorian, four, 1901, impl.Fault{Year: 2100, Month: 2, Shown: 29, Right: 28}}, {gregorian, four, 9900, impl.Fault{Year: 9900, Month: 2, Shown: 29, Right: 28}},
		// The next one is in the year 10100.
		{gregorian, four, 9901, impl.Fault{}}, {gregorian, four, 9999, impl.Fault{}},
		{gregorian, year, 0, impl.Fault{Year: 0, Month: 2, Shown: 28, Right: 29}}, {gregorian, year, 1897, impl.Fault{Year: 1904, Month: 2, Shown: 28, Right: 29}}, {gregorian, year, 9996, impl.Fault{Year: 9996, Month: 2, Shown: 28, Right: 29}}, {gregorian, year, 9997, impl.Fault{}}, {julian, four, 0, impl.Fault{}}, {julian, four, 9999, impl.Fault{}},
		// A fault in MaxYear only.
		{rare, notches("30"), 9999, impl.Fault{Year: 9999, Month: 1, Shown: 30, Right: 31}}, {rare, notches("30"), 9000, impl.Fault{Year: 9999, Month: 1, Shown: 30, Right: 31}}, {rare, notches("30"), 8999, impl.Fault{Year: 8999, Month: 1, Shown: 30, Right: 31}}, {rare, notches("30"), 0, impl.Fault{Year: 999, Month: 1, Shown: 30, Right: 31}}, {rare, notches("31"), 0, impl.Fault{Year: 0, Month: 1, Shown: 31, Right: 30}}, {rare, notches("31"), 999, impl.Fault{Year: 1000, Month: 1, Shown: 31, Right: 30}}, {rare, notches("31"), 9999, impl.Fault{}},
		{own("a 30 31, b 5 6", "2 1 yes"), notches("30 5 31 6 30 5"), 0, impl.Fault{Year: 3, Month: 1, Shown: 30, Right: 31}}, {own("a 30 31, b 5 6", "2 1 yes"), notches("30 5 31 6 30 5"), 4, impl.Fault{Year: 4, Month: 1, Shown: 31, Right: 30}}, {own("a 30 31, b 5 6", "2 1 yes"), notches("30 5 31 6 30 5"), 6, impl.Fault{Year: 9, Month: 1, Shown: 30, Right: 31}}, {own("a 30, b 5 6", "2 1 yes"), notches("30 5"), 0, impl.Fault{Year: 1, Month: 2, Shown: 5, Right: 6}},
	} {
		wantCode := int64(impl.OK)
		if c.want == (impl.Fault{}) {
			wantCode = impl.ErrNotFound
		}
		checkNext(t, c.calendar, c.cam, c.first, c.want, wantCode)
		checkYears(t, c.calendar, c.cam, c.first, 9999)
	}
	for _, first := range notYears() {
		checkNext(t, gregorian, four, first, impl.Fault{}, impl.ErrRange)
		checkNext(t, julian, four, first, impl.Fault{}, impl.ErrRange)
	}
	source := rand.New(rand.NewSource(175))
	for range 300 {
		c := anyCalendar(source)
		cam := anyCam(c, source)
		for range 5 {
			checkYears(t, c, cam, upTo(9999, source), upTo(9999, source))
		}
	}
}

func TestPromise17AllFaultsAreTold(t *testing.T) {
	source := rand.New(rand.NewSource(176))
	for range 300 {
		c := anyCalendar(source)
		cam := anyCam(c, source)
		first := upTo(9999, source)
		last := min(first+source.Int63n(300), 9999)
		var all []impl.Fault
		for year := first; year <= last; year++ {
			list, code := impl.CamFaults(c, cam, year, year)
			if code != impl.OK {
				t.Fatalf("CamFaults(%v, %v, %d, %d): got code %d", c, cam, year, year, code)
			}
			all = append(all, list...)
			for m := range c.Months {
				month := int64(m + 1)
				days, _ := impl.DaysInMonth(c, year, month)
				shown := cam[int(year)*len(c.Months)%len(cam)+m]
				told := slices.ContainsFunc(list, func(f impl.Fault) bool {
					return f == impl.Fault{Year: year, Month: month, Shown: shown, Right: days}
				})
				if told != (shown != days) {
					t.Errorf("faults of %v in %v in %d: got %v, but month %d has %d days, and %d are shown", cam, c, year, list, month, days, shown)
				}
			}
		}
		// Later years have no effect, and from each fault on there is the next one.
		if len(all) <= 40 {
			checkCamFaults(t, c, cam, first, last, all, impl.OK)
		} else {
			checkCamFaults(t, c, cam, first, last, nil, impl.ErrFull)
		}
		year := first
		for _, f := range all {
			if f.Year < year {
				continue
			}
			checkNext(t, c, cam, year, f, impl.OK)
			checkNext(t, c, cam, f.Year, f, impl.OK)
			year = f.Year + 1
		}
	}
}

func TestPromise17BestCam(t *testing.T) {
	gregorian, julian := given("gregorian"), given("julian")
	common := notches("31 28 31 30 31 30 31 31 30 31 30 31")
	leap := notches("31 29 31 30 31 30 31 31 30 31 30 31")
	fall := own("a 30 29", "2 1 yes")
	for _, c := range []struct {
		calendar impl.Calendar
		years    int64
		want     []int64
		count    int64
	}{
		{gregorian, 1, common, 97}, {gregorian, 2, slices.Repeat(common, 2), 97}, {gregorian, 3, slices.Repeat(common, 3), 291}, {gregorian, 4, slices.Concat(leap, common, common, common), 3}, {gregorian, 5, slices.Repeat(common, 5), 97}, {gregorian, 12, slices.Repeat(slices.Concat(leap, common, common, common), 3), 9}, {gregorian, 20, slices.Repeat(slices.Concat(leap, common, common, common), 5), 3}, {gregorian, 21, slices.Repeat(common, 21), 21 * 97},
		// In two years, as many Februaries have 28 days as 29.
		{julian, 1, common, 1}, {julian, 2, slices.Repeat(common, 2), 1}, {julian, 3, slices.Repeat(common, 3), 3}, {julian, 4, slices.Concat(leap, common, common, common), 0}, {julian, 6, slices.Repeat(common, 6), 3}, {julian, 8, slices.Repeat(slices.Concat(leap, common, common, common), 2), 0}, {julian, 21, slices.Repeat(common, 21), 21},
		{given("egyptian"), 1, camOf(given("egyptian"), 0, 1), 0}, {given("egyptian"), 20, camOf(given("egyptian"), 0, 20), 0}, {given("fixed"), 4, camOf(given("fixed"), 0, 4), 3}, {given("fixed"), 1, camOf(given("fixed"), 1, 1), 97},
		// Several numbers that are equally frequent, of which the least one is that of leap years, or of common ones.
		{fall, 1, notches("29"), 1}, {fall, 2, notches("30 29"), 0}, {fall, 3, notches("29 29 29"), 3}, {own("a 30 29, b 5 6", "2 1 yes"), 1, notches("29 5"), 2}, {own("a 30 29, b 5 6", "2 0 yes"), 1, notches("29 5"), 2}, {own("a 60 1, b 1 60", "4 0 yes, 4 3 yes"), 1, notches("1 1"), 4}, {own("a 60 1, b 1 60", "4 0 yes, 4 3 yes"), 2, notches("1 1 1 1"), 4}, {own("a 60 1, b 1 60", "4 0 yes, 4 2 yes"), 2, notches("1 60 60 1"), 0}, {own("a 30 31", "3 0 yes, 3 1 yes"), 1, notches("31"), 1}, {own("a 31 30", "3 0 yes"), 1, notches("31"), 1}, {own("a 30 31", "6 0 yes, 6 2 yes"), 2, notches("31 30"), 1}, {own("a 30 31", "6 0 yes, 6 2 yes"), 3, notches("30 30 30"), 2},
		// Only leap years, and cycles of one year and of MaxCycle years.
		{own("a 30 31", "1 0 yes"), 1, notches("31"), 0}, {own("a 31 30", "1 0 yes"), 2, notches("30 30"), 0}, {own("a 30 31", "1 0 yes"), 260, slices.Repeat(notches("31"), 260), 0}, {own("a 30 31", ""), 260, slices.Repeat(notches("30"), 260), 0}, {own("a 30 31", "1000 999 yes, 16 15 yes"), 1, notches("30"), 126}, {own("a 30 31", "1000 999 yes, 16 15 yes"), 16, append(slices.Repeat(notches("30"), 15), 31), 1}, {own("a 30 31", "1000 999 yes, 16 15 yes"), 259, slices.Repeat(notches("30"), 259), 259 * 126},
	} {
		checkBestCam(t, c.calendar, c.years, c.want, c.count, impl.OK)
		want, count, code := expectBest(c.calendar, c.years)
		if !slices.Equal(want, c.want) || count != c.count || code != impl.OK {
			t.Errorf("best cam of %d years of %v: expected %v, %d, want %v, %d", c.years, c.calendar, want, count, c.want, c.count)
		}
	}
	for count := 1; count <= 20; count++ {
		c := impl.Calendar{Name: "own", Months: manyMonths(count), Rules: rules("3 1 yes, 8 5 yes"), Week: 7}
		most := int64(260 / count)
		for _, years := range append(farNumbers(), -1, 0, 1, 2, most-1, most, most+1, most+2, 260, 261, 10000) {
			want, faults, code := expectBest(c, years)
			checkBestCam(t, c, years, want, faults, code)
		}
		if cam := bestOf(c, most); int64(len(cam)) != most*int64(count) {
			t.Errorf("BestCam of %d months and %d years: got %d notches", count, most, len(cam))
		}
	}
	source := rand.New(rand.NewSource(177))
	for range 400 {
		c := anyCalendar(source)
		years := anyYears(c, source)
		want, count, code := expectBest(c, years)
		checkBestCam(t, c, years, want, count, code)
	}
}

func TestPromise17NoCamHasFewerFaults(t *testing.T) {
	// All cams of one or two notches.
	for _, c := range []impl.Calendar{own("a 30", ""), own("a 30 31", "2 1 yes"), own("a 31 30", "2 1 yes"), own("a 1 60", "3 1 yes"), own("a 60 1", "3 1 yes, 3 2 yes"), own("a 60 1", "1 0 yes"), own("a 30 31, b 31 30", "2 0 yes"), own("a 30 31, b 6 5", "4 0 yes, 100 0 no, 400 0 yes"), own("a 1, b 60", ""), own("a 30 31", "1000 999 yes, 16 15 yes")} {
		for years := int64(1); years*int64(len(c.Months)) <= 2; years++ {
			best, fewest, code := impl.BestCam(c, years)
			if count, _ := impl.FaultCount(c, best); count != fewest || code != impl.OK {
				t.Errorf("BestCam(%v, %d): got %v with %d faults, code %d, but it has %d", c, years, best, fewest, code, count)
			}
			for a := int64(1); a <= 60; a++ {
				if len(best) == 1 {
					checkNoBetter(t, c, []int64{a}, best, fewest)
					continue
				}
				for b := int64(1); b <= 60; b++ {
					checkNoBetter(t, c, []int64{a, b}, best, fewest)
				}
			}
		}
	}
	// Cams of more notches that differ from the best one by few numbers, and others.
	source := rand.New(rand.NewSource(178))
	list := goodCalendars()
	for range 150 {
		list = append(list, anyCalendar(source))
	}
	for _, c := range list {
		years := anyYears(c, source)
		best, fewest, _ := impl.BestCam(c, years)
		checkCount(t, c, best, fewest, impl.OK)
		if !impl.ValidCam(best) || int64(len(best)) != years*int64(len(c.Months)) {
			t.Errorf("BestCam(%v, %d): got %v", c, years, best)
		}
		for range 20 {
			cam := slices.Clone(best)
			for range 1 + source.Intn(3) {
				at := source.Intn(len(cam))
				m := c.Months[at%len(c.Months)]
				cam[at] = []int64{m.Days, m.Leap, 1 + upTo(59, source)}[source.Intn(3)]
			}
			checkNoBetter(t, c, cam, best, fewest)
		}
		first := source.Int63n(10000 - years)
		checkNoBetter(t, c, camOf(c, first, years), best, fewest)
	}
}

// checkNoBetter checks that a cam has no fewer faults than the best one, and that none of its numbers is less than that of the best one if it has as many.
func checkNoBetter(t *testing.T, c impl.Calendar, cam, best []int64, fewest int64) {
	t.Helper()
	count, code := impl.FaultCount(c, cam)
	if count < fewest || code != impl.OK {
		t.Errorf("FaultCount(%v, %v): got %d, code %d, but %v has %d", c, cam, count, code, best, fewest)
	}
	for i := range cam {
		if count == fewest && cam[i] < best[i] {
			t.Errorf("FaultCount(%v, %v): got %d as for %v, the best one, whose number %d is greater", c, cam, count, best, i)
		}
	}
}

func TestPromise17YearsOfTheCycle(t *testing.T) {
	// Cams of as many years as the cycle, or as a multiple of it, have no faults.
	for _, c := range []impl.Calendar{given("julian"), given("egyptian"), ruled("4 0 yes"), ruled("19 3 yes, 19 7 yes"), ruled("100 5 yes, 20 5 no"), ruled("128 0 no, 4 0 yes"), ruled("5 1 yes, 7 2 yes"), ruled("13 12 yes, 20 3 no"), ruled("1 0 yes")} {
		cycle, _, _ := impl.CycleOf(c)
		for years := cycle; years*int64(len(c.Months)) <= 260; years += cycle {
			checkBestCam(t, c, years, camOf(c, 0, years), 0, impl.OK)
			checkCamFaults(t, c, camOf(c, 0, years), 0, 9999, nil, impl.OK)
			checkNext(t, c, camOf(c, years, years), 0, impl.Fault{}, impl.ErrNotFound)
		}
	}
	// Years that share no divisor with the cycle are no better than one year, taken as often.
	for _, c := range goodCalendars() {
		cycle, _, _ := impl.CycleOf(c)
		one, count, _ := impl.BestCam(c, 1)
		for years := int64(1); years*int64(len(c.Months)) <= 260; years++ {
			if commonMultiple([]impl.LeapRule{{Every: cycle}, {Every: years}}).Int64() == cycle*years {
				checkBestCam(t, c, years, slices.Repeat(one, int(years)), count*years, impl.OK)
			}
		}
	}
}

func TestPromise17CamText(t *testing.T) {
	for _, c := range []struct {
		list []int64
		want string
	}{
		{notches("31 28 31"), "31 28 31"}, {notches("1"), "1"}, {notches("60"), "60"}, {notches("1 2 60 9 10"), "1 2 60 9 10"}, {nil, ""}, {[]int64{}, ""}, {notches("0"), ""}, {notches("30 0"), ""}, {notches("0 30"), ""}, {notches("30 61"), ""}, {notches("-1"), ""}, {notches("30 -30"), ""}, {slices.Repeat(notches("30"), 261), ""}, {slices.Repeat(notches("30"), 260), strings.Repeat("30 ", 259) + "30"}, {slices.Repeat(notches("7"), 3), "7 7 7"},
	} {
		if got := impl.CamText(c.list); got != c.want || expectCamText(c.list) != c.want {
			t.Errorf("CamText(%v): got %q, want %q", c.list, got, c.want)
		}
	}
	for _, list := range append(goodLists(), badLists()...) {
		checkList(t, list)
	}
}

func TestPromise17ReadCam(t *testing.T) {
	for _, s := range []string{
		"", " ", "  ", "\n", "0", "00", "01", "+1", "-1", "1 ", " 1", "1  2", " 1 2", "1 2 ", "1 2  3", "1\t2", "1\n2", "1 2\n", "\n1 2", "1,2", "1, 2", "1;2", "1-2", "1 2\r", "1\u00a02", "1 2\x00", "\x001", "1 \xff", "\ufeff1", "a", "a b", "1 a", "a 1", "1 a 2", "x1", "1x", "none", "[1 2]",
		"30 0", "0 30", "30 0 30", "30 -1", "-1 30", "30 +1", "+30", "030", "30 031", "30 00", "30 -0", "-0", "30 61", "61", "61 30", "30 61 30", "100", "365", "4294967326", "30 4294967326", "18446744073709551646", "30 18446744073709551646", "999999999999999999", "30 999999999999999999", "1000000000000000000", "30 1000000000000000000", "9223372036854775807", "9223372036854775808", "-9223372036854775808", "30 9223372036854775838", "3.0", "30.", "3e1", "0x1e", "3_0", "1/2", "３０", "30 三十",
		strings.Repeat("30 ", 260) + "30", strings.Repeat("30 ", 260), strings.Repeat("30 ", 259), strings.Repeat("30 ", 261) + "30", strings.Repeat("30 ", 100000), strings.Repeat(" ", 100000), strings.Repeat("3", 100000), strings.Repeat("0", 100000) + "1", "1" + strings.Repeat(" ", 100000), strings.Repeat(" ", 100000) + "1", strings.Repeat("a ", 100000),
	} {
		if got, ok := impl.ReadCam(s); got != nil || ok {
			t.Errorf("ReadCam(%.100q): got %v %t, want none", s, got, ok)
		}
		checkReadCam(t, s)
	}
	for _, s := range []string{"30 31", "1", "60", "9 10 59 60 1", "31 28 31 30 31 30 31 31 30 31 30 31", strings.Repeat("30 ", 259) + "30", strings.Repeat("1 ", 258) + "60"} {
		if !checkReadCam(t, s) {
			t.Errorf("ReadCam(%q): got false, want true", s)
		}
		if got, _ := impl.ReadCam(s); impl.CamText(got) != s {
			t.Errorf("ReadCam(%q): got %v", s, got)
		}
	}
	for _, s := range []string{"30 31", "1", "60 5 10", "31 28 31 30 31 30 31 31 30 31 30 31"} {
		checkChanges(t, s, checkReadCam)
	}
	var try func(s string, left int)
	try = func(s string, left int) {
		checkReadCam(t, s)
		if left == 0 {
			return
		}
		for _, c := range "016 -+" {
			try(s+string(c), left-1)
		}
	}
	try("", 6)
}

func TestPromise17FaultText(t *testing.T) {
	for _, c := range []struct {
		fault impl.Fault
		want  string
	}{
		{impl.Fault{Year: 2100, Month: 2, Shown: 29, Right: 28}, "2100 2 29 28"}, {impl.Fault{}, "0 0 0 0"}, {impl.Fault{Year: 1}, "1 0 0 0"}, {impl.Fault{Month: 1}, "0 1 0 0"}, {impl.Fault{Shown: 1}, "0 0 1 0"}, {impl.Fault{Right: 1}, "0 0 0 1"}, {impl.Fault{Year: -1, Month: -2, Shown: -3, Right: -4}, "-1 -2 -3 -4"}, {impl.Fault{Year: 9999, Month: 20, Shown: 60, Right: 1}, "9999 20 60 1"}, {impl.Fault{Year: 0, Month: -20, Shown: 100, Right: -1}, "0 -20 100 -1"}, {impl.Fault{Year: 10000, Month: 21, Shown: 61, Right: 61}, "10000 21 61 61"},
		{impl.Fault{Year: least, Month: greatest, Shown: least, Right: greatest}, "-9223372036854775808 9223372036854775807 -9223372036854775808 9223372036854775807"}, {impl.Fault{Year: greatest, Month: least, Shown: greatest, Right: least}, "9223372036854775807 -9223372036854775808 9223372036854775807 -9223372036854775808"},
	} {
		if got := impl.FaultText(c.fault); got != c.want {
			t.Errorf("FaultText(%v): got %q, want %q", c.fault, got, c.want)
		}
	}
	numbers := append(farNumbers(), -10, -1, 0, 1, 9, 10)
	for _, a := range numbers {
		for _, b := range numbers {
			for _, f := range []impl.Fault{{Year: a, Month: b}, {Month: a, Shown: b}, {Shown: a, Right: b}, {Right: a, Year: b}} {
				if got, want := impl.FaultText(f), fmt.Sprintf("%d %d %d %d", f.Year, f.Month, f.Shown, f.Right); got != want {
					t.Errorf("FaultText(%v): got %q, want %q", f, got, want)
				}
			}
		}
	}
}

func TestPromise17ErrorsInTheirOrder(t *testing.T) {
	gregorian := given("gregorian")
	other := notches("30 31") // no cam of the gregorian calendar
	always := slices.Repeat(notches("1"), 12)
	far := append(farNumbers(), -1, 10000)
	for _, bad := range badCalendars() {
		// Instead of ErrState, ErrRange, ErrFull and ErrNotFound.
		for _, cam := range [][]int64{notches("30"), other, always, camOf(gregorian, 2000, 4), nil, notches("0"), notches("30 61")} {
			checkCount(t, bad, cam, 0, impl.ErrInvalid)
			for _, first := range []int64{0, 5, 9999, -1, 10000, least, greatest} {
				checkNext(t, bad, cam, first, impl.Fault{}, impl.ErrInvalid)
				for _, last := range []int64{0, 9999, -1, 10000, greatest} {
					checkCamFaults(t, bad, cam, first, last, nil, impl.ErrInvalid)
				}
			}
		}
		for _, years := range []int64{0, 1, -1, 4, 261, least, greatest} {
			checkBestCam(t, bad, years, nil, 0, impl.ErrInvalid)
			for _, first := range []int64{0, -1, 9999, 10000, least, greatest} {
				checkCamOf(t, bad, first, years, nil, impl.ErrInvalid)
			}
		}
	}
	for _, list := range badLists() {
		for _, c := range append(goodCalendars()[:8], gregorian, impl.Calendar{}) {
			checkCount(t, c, list, 0, impl.ErrInvalid)
			for _, first := range []int64{0, -1, 10000, greatest} {
				checkNext(t, c, list, first, impl.Fault{}, impl.ErrInvalid)
				checkCamFaults(t, c, list, first, 5, nil, impl.ErrInvalid)
				checkCamFaults(t, c, list, 7, first, nil, impl.ErrInvalid)
			}
		}
	}
	// ErrState comes before ErrRange, and instead of ErrFull.
	for _, first := range append(far, 0, 5, 9999) {
		checkNext(t, gregorian, other, first, impl.Fault{}, impl.ErrState)
		for _, last := range append(far, 0, 4, 9999) {
			checkCamFaults(t, gregorian, other, first, last, nil, impl.ErrState)
		}
	}
	// ErrRange comes before ErrFull and ErrNotFound.
	none := camOf(given("egyptian"), 0, 1)
	for _, year := range far {
		for _, next := range append(far, 0, 5, 9999) {
			checkCamFaults(t, gregorian, always, year, next, nil, impl.ErrRange)
			checkCamFaults(t, gregorian, always, next, year, nil, impl.ErrRange)
		}
		checkNext(t, gregorian, always, year, impl.Fault{}, impl.ErrRange)
		checkNext(t, given("egyptian"), none, year, impl.Fault{}, impl.ErrRange)
	}
	for _, years := range [][2]int64{{1, 0}, {9999, 0}, {9999, 9998}, {500, 100}} {
		checkCamFaults(t, gregorian, always, years[0], years[1], nil, impl.ErrRange)
		checkCamFaults(t, given("egyptian"), none, years[0], years[1], nil, impl.ErrRange)
	}
	checkCamFaults(t, gregorian, always, 0, 9999, nil, impl.ErrFull)
	checkCamFaults(t, gregorian, always, 9996, 9999, nil, impl.ErrFull)
	if list, code := impl.CamFaults(gregorian, always, 9997, 9999); len(list) != 36 || code != impl.OK {
		t.Errorf("faults of three years that are wrong: got %d, code %d", len(list), code)
	}
}

// camResults returns all that the functions of cams tell, and changes the lists that they return.
func camResults(c impl.Calendar, cam []int64, first, years int64) string {
	var text strings.Builder
	tell := func(values ...any) { text.WriteString(fmt.Sprintln(values...)) }
	tellList := func(list []int64, code any) {
		tell(len(list), fmt.Sprintf("%.400v", list), code)
		clear(list[:cap(list)])
	}
	tell(impl.ValidCam(cam))
	list, code := impl.CamOf(c, first, years)
	tellList(list, code)
	period, code := impl.CamPeriod(cam)
	tell(period, code)
	list, code = impl.CamLevels(cam)
	tellList(list, code)
	faults, code := impl.CamFaults(c, cam, first, first+years)
	tell(faults, code)
	clear(faults[:cap(faults)])
	count, code := impl.FaultCount(c, cam)
	tell(count, code)
	list, count, code = impl.BestCam(c, years)
	tellList(list, code)
	tell(count)
	fault, code := impl.NextFault(c, cam, first)
	tell(fault, code, impl.FaultText(fault))
	line := impl.CamText(cam)
	tell(line)
	list, ok := impl.ReadCam(line)
	tellList(list, ok)
	return text.String()
}

func TestPromise1CamsAreNotModified(t *testing.T) {
	source := rand.New(rand.NewSource(179))
	calendars := append(goodCalendars(), badCalendars()[:40]...)
	for range 100 {
		calendars = append(calendars, anyCalendar(source))
	}
	lists := append(goodLists(), badLists()[:12]...)
	for i, c := range calendars {
		c := crowdedCalendar(c)
		whole := wholeCalendar(c)
		list := slices.Clone(lists[i%len(lists)])
		if isCalendar(c) {
			list = anyCam(c, source)
		}
		// A part of a longer list, whose spare capacity is in use.
		list = append(list, 28, 29)[:len(list)]
		all := slices.Clone(list[:cap(list)])
		first, years := upTo(9999, source), 1+source.Int63n(8)
		want := camResults(c, list, first, years)
		if wholeCalendar(c) != whole || !slices.Equal(list[:cap(list)], all) {
			t.Errorf("the functions of cams changed %s to %s, or %v to %v", whole, wholeCalendar(c), all, list[:cap(list)])
		}
		if got := camResults(copyOfCalendar(c), slices.Clip(slices.Clone(list)), first, years); got != want {
			t.Errorf("results for %v and %v: got %s, but %s before", c, list, got, want)
		}
	}
	nothing, empty := ruled(""), impl.Calendar{Name: "own", Months: months("a 30 31"), Rules: []impl.LeapRule{}, Week: 7}
	if a, b := camResults(nothing, nil, 5, 1), camResults(empty, []int64{}, 5, 1); a != b {
		t.Errorf("nil lists lead to %s, empty ones to %s", a, b)
	}
	if a, b := camResults(nothing, notches("30 31"), 5, 1), camResults(empty, notches("30 31"), 5, 1); a != b {
		t.Errorf("nil rules lead to %s, empty ones to %s", a, b)
	}
}

func TestPromise1ListsOfCamsAreNew(t *testing.T) {
	c := given("gregorian")
	// Results of lists that are already sorted, or have all levels, are no part of them.
	list := notches("1 2 3")
	levels, _ := impl.CamLevels(list)
	levels[0] = 60
	if !slices.Equal(list, notches("1 2 3")) {
		t.Errorf("CamLevels returned its argument: %v", list)
	}
	first, second := camOf(c, 2000, 4), camOf(c, 2000, 4)
	clear(first)
	if first[0] == second[0] || !slices.Equal(second, camOf(c, 2000, 4)) {
		t.Errorf("CamOf returned a list that was changed")
	}
	a, b := bestOf(c, 4), bestOf(c, 4)
	clear(a)
	if !slices.Equal(b, second) || !slices.Equal(b, bestOf(c, 4)) {
		t.Errorf("BestCam returned a list that was changed")
	}
	one, _ := impl.ReadCam("30 31")
	clear(one)
	if two, ok := impl.ReadCam("30 31"); !ok || !slices.Equal(two, notches("30 31")) {
		t.Errorf("ReadCam returned %v after a change", two)
	}
	faults, _ := impl.CamFaults(c, second, 1900, 2100)
	clear(faults)
	checkYears(t, c, second, 1900, 2100)
}

func TestPromise1CamsFromSeveralGoroutines(t *testing.T) {
	source := rand.New(rand.NewSource(180))
	calendars := append(goodCalendars(), badCalendars()[:20]...)
	for range 40 {
		calendars = append(calendars, anyCalendar(source))
	}
	var cams [][]int64
	for _, c := range calendars {
		if isCalendar(c) {
			cams = append(cams, anyCam(c, source))
		} else {
			cams = append(cams, notches("30 31"))
		}
	}
	checkFromGoroutines(t, len(calendars), func(i int) string {
		return camResults(calendars[i], cams[i], int64(i)*99%10000, int64(i)%9)
	})
}
