package tests

import (
	"cmp"
	"fmt"
	"math/big"
	"math/rand"
	"regexp"
	"slices"
	"sort"
	"strings"
	"testing"
	"time"

	"loop.example/g00921/impl"
)

func date(year, month, day int64) impl.Date {
	return impl.Date{Year: year, Month: month, Day: day}
}

// almanac is a calendar with the numbers of the first days of all its years, and that of the day behind the last one. It has none if the calendar is not valid.
type almanac struct {
	impl.Calendar
	starts []int64
}

func almanacOf(c impl.Calendar) almanac {
	a := almanac{Calendar: c}
	if !isCalendar(c) {
		return a
	}
	day := int64(0)
	for year := range int64(10000) {
		a.starts = append(a.starts, day)
		day += sumOf(lengthsIn(c, year))
	}
	a.starts = append(a.starts, day)
	return a
}

func (a almanac) valid() bool { return len(a.starts) > 0 }

func (a almanac) last() int64 { return a.starts[10000] - 1 }

// has reports whether d is a day of the calendar.
func (a almanac) has(d impl.Date) bool {
	if !a.valid() || !isYear(d.Year) || d.Month < 1 || d.Month > int64(len(a.Months)) {
		return false
	}
	return d.Day >= 1 && d.Day <= lengthsIn(a.Calendar, d.Year)[d.Month-1]
}

func (a almanac) number(d impl.Date) (int64, int64) {
	if !a.valid() {
		return 0, impl.ErrInvalid
	}
	if !a.has(d) {
		return 0, impl.ErrRange
	}
	return a.starts[d.Year] + sumOf(lengthsIn(a.Calendar, d.Year)[:d.Month-1]) + d.Day - 1, impl.OK
}

func (a almanac) date(day int64) (impl.Date, int64) {
	if !a.valid() {
		return impl.Date{}, impl.ErrInvalid
	}
	if day < 0 || day > a.last() {
		return impl.Date{}, impl.ErrRange
	}
	year := sort.Search(10000, func(year int) bool { return a.starts[year+1] > day })
	d := date(int64(year), 1, day-a.starts[year]+1)
	for _, length := range lengthsIn(a.Calendar, d.Year) {
		if d.Day <= length {
			break
		}
		d.Month, d.Day = d.Month+1, d.Day-length
	}
	return d, impl.OK
}

func (a almanac) converted(d impl.Date, to almanac, shift int64) (impl.Date, int64) {
	if !a.valid() || !to.valid() {
		return impl.Date{}, impl.ErrInvalid
	}
	day, code := a.number(d)
	if code != impl.OK {
		return impl.Date{}, code
	}
	sum := new(big.Int).Add(big.NewInt(day), big.NewInt(shift))
	if !sum.IsInt64() {
		return impl.Date{}, impl.ErrRange
	}
	return to.date(sum.Int64())
}

func (a almanac) between(d, e impl.Date) (int64, int64) {
	from, code := a.number(d)
	to, otherCode := a.number(e)
	if code != impl.OK || otherCode != impl.OK {
		return 0, max(code, otherCode)
	}
	return to - from, impl.OK
}

func (a almanac) weekday(d impl.Date, first int64) (int64, int64) {
	day, code := a.number(d)
	if code != impl.OK {
		return 0, code
	}
	if first < 1 || first > a.Week {
		return 0, impl.ErrRange
	}
	for range day % a.Week {
		first++
		if first > a.Week {
			first = 1
		}
	}
	return first, impl.OK
}

func expectOrder(a, b impl.Date) int64 {
	return int64(slices.Compare([]int64{a.Year, a.Month, a.Day}, []int64{b.Year, b.Month, b.Day}))
}

func expectDateText(d impl.Date) string {
	if !isYear(d.Year) || !isYear(d.Month) || !isYear(d.Day) {
		return ""
	}
	return fmt.Sprintf("%d-%d-%d", d.Year, d.Month, d.Day)
}

var datePattern = regexp.MustCompile(`\A(0|[1-9][0-9]{0,3})-(0|[1-9][0-9]{0,3})-(0|[1-9][0-9]{0,3})\z`)

// checkReadDate compares ReadDate with a pattern, and returns whether there is a date with the text.
func checkReadDate(t *testing.T, s string) bool {
	t.Helper()
	var want impl.Date
	parts := datePattern.FindStringSubmatch(s)
	if parts != nil {
		want = date(number(parts[1]), number(parts[2]), number(parts[3]))
	}
	got, ok := impl.ReadDate(s)
	if got != want || ok != (parts != nil) {
		t.Errorf("ReadDate(%.100q): got %v %t, want %v %t", s, got, ok, want, parts != nil)
	}
	return ok
}

func checkDay(t *testing.T, c impl.Calendar, d impl.Date, want, wantCode int64) {
	t.Helper()
	if got := impl.ValidDate(c, d); got != (wantCode == impl.OK) {
		t.Errorf("ValidDate(%v, %v): got %t", c, d, got)
	}
	if got, code := impl.DayOf(c, d); got != want || code != wantCode {
		t.Errorf("DayOf(%v, %v): got %d, code %d, want %d, code %d", c, d, got, code, want, wantCode)
	}
}

func checkDate(t *testing.T, c impl.Calendar, day int64, want impl.Date, wantCode int64) {
	t.Helper()
	if got, code := impl.DateOf(c, day); got != want || code != wantCode {
		t.Errorf("DateOf(%v, %d): got %v, code %d, want %v, code %d", c, day, got, code, want, wantCode)
	}
}

func checkLast(t *testing.T, c impl.Calendar, want, wantCode int64) {
	t.Helper()
	if got, code := impl.LastDay(c); got != want || code != wantCode {
		t.Errorf("LastDay(%v): got %d, code %d, want %d, code %d", c, got, code, want, wantCode)
	}
}

func checkAddDays(t *testing.T, c impl.Calendar, d impl.Date, days int64, want impl.Date, wantCode int64) {
	t.Helper()
	if got, code := impl.AddDays(c, d, days); got != want || code != wantCode {
		t.Errorf("AddDays(%v, %v, %d): got %v, code %d, want %v, code %d", c, d, days, got, code, want, wantCode)
	}
}

func checkBetween(t *testing.T, c impl.Calendar, d, e impl.Date, want, wantCode int64) {
	t.Helper()
	if got, code := impl.DaysBetween(c, d, e); got != want || code != wantCode {
		t.Errorf("DaysBetween(%v, %v, %v): got %d, code %d, want %d, code %d", c, d, e, got, code, want, wantCode)
	}
}

func checkWeekday(t *testing.T, c impl.Calendar, d impl.Date, first, want, wantCode int64) {
	t.Helper()
	if got, code := impl.WeekdayOf(c, d, first); got != want || code != wantCode {
		t.Errorf("WeekdayOf(%v, %v, %d): got %d, code %d, want %d, code %d", c, d, first, got, code, want, wantCode)
	}
}

func checkConverted(t *testing.T, from impl.Calendar, d impl.Date, to impl.Calendar, shift int64, want impl.Date, wantCode int64) {
	t.Helper()
	if got, code := impl.ConvertDate(from, d, to, shift); got != want || code != wantCode {
		t.Errorf("ConvertDate(%v, %v, %v, %d): got %v, code %d, want %v, code %d", from, d, to, shift, got, code, want, wantCode)
	}
}

func checkOrder(t *testing.T, a, b impl.Date, want int64) {
	t.Helper()
	if got := impl.CompareDate(a, b); got != want {
		t.Errorf("CompareDate(%v, %v): got %d, want %d", a, b, got, want)
	}
}

// checkNumbered checks that a day has a number, and that the number leads back to it.
func checkNumbered(t *testing.T, c impl.Calendar, d impl.Date, day int64) {
	t.Helper()
	checkDay(t, c, d, day, impl.OK)
	checkDate(t, c, day, d, impl.OK)
}

// checkDateFunctions checks all functions of two dates, which need not be days of the calendars.
func checkDateFunctions(t *testing.T, a, b almanac, d, e impl.Date, day, days, first int64) {
	t.Helper()
	n, code := a.number(d)
	checkDay(t, a.Calendar, d, n, code)
	want, code := a.date(day)
	checkDate(t, a.Calendar, day, want, code)
	want, code = a.converted(d, a, days)
	checkAddDays(t, a.Calendar, d, days, want, code)
	n, code = a.between(d, e)
	checkBetween(t, a.Calendar, d, e, n, code)
	n, code = a.weekday(d, first)
	checkWeekday(t, a.Calendar, d, first, n, code)
	want, code = a.converted(d, b, days)
	checkConverted(t, a.Calendar, d, b.Calendar, days, want, code)
	checkOrder(t, d, e, expectOrder(d, e))
	if got := impl.DateText(d); got != expectDateText(d) {
		t.Errorf("DateText(%v): got %q, want %q", d, got, expectDateText(d))
	}
}

// notDates are days of no calendar.
func notDates() []impl.Date {
	list := []impl.Date{{}, date(-1, 1, 1), date(-1, 0, 0), date(10000, 1, 1), date(10000, 0, 0), date(0, 0, 1), date(0, 1, 0), date(5, 0, 0), date(0, -1, 1), date(0, 1, -1), date(0, 21, 1), date(0, 1, 61), date(9999, 21, 61), date(-1, -1, -1), date(2000, 0, 1), date(2000, 21, 1), date(2000, 1, 0), date(2000, 1, 61), date(-4, 2, 29), date(10000, 2, 29), date(1, 1, 2000)}
	for _, far := range farNumbers() {
		list = append(list, date(far, 1, 1), date(1, far, 1), date(1, 1, far), date(far, far, far))
	}
	return list
}

// daysAtEnds are the numbers of the first and the last days of a calendar, and of days at the ends of months, years and cycles.
func daysAtEnds(a almanac, source *rand.Rand) []int64 {
	years, _, _ := expectCycle(a.Calendar)
	var list []int64
	for _, year := range []int64{0, 1, 2, 3, 4, years - 1, years, years + 1, 2 * years, 10000 / years * years, 9999, source.Int63n(10000), source.Int63n(10000)} {
		if year > 9999 {
			continue
		}
		start := a.starts[year]
		list = append(list, start-1, start, start+1, a.starts[year+1]-2, a.starts[year+1]-1, a.starts[year+1])
		for _, length := range lengthsIn(a.Calendar, year) {
			start += length
			list = append(list, start-1, start)
		}
	}
	return append(list, a.last()-1, a.last(), a.last()+1, -1, 0)
}

func TestPromise16ValidDate(t *testing.T) {
	gregorian, fixed, egyptian := given("gregorian"), given("fixed"), given("egyptian")
	for _, c := range []struct {
		calendar impl.Calendar
		d        impl.Date
		want     bool
	}{
		{gregorian, date(-1, 1, 1), false}, {gregorian, date(0, 1, 1), true}, {gregorian, date(9999, 12, 31), true}, {gregorian, date(10000, 1, 1), false}, {gregorian, date(9999, 1, 1), true},
		{gregorian, date(2000, 0, 1), false}, {gregorian, date(2000, 1, 1), true}, {gregorian, date(2000, 12, 1), true}, {gregorian, date(2000, 13, 1), false}, {gregorian, date(2000, -1, 1), false},
		{gregorian, date(2000, 1, 0), false}, {gregorian, date(2000, 1, -1), false}, {gregorian, date(2000, 1, 31), true}, {gregorian, date(2000, 1, 32), false}, {gregorian, date(2000, 4, 30), true}, {gregorian, date(2000, 4, 31), false},
		{gregorian, date(2023, 2, 28), true}, {gregorian, date(2023, 2, 29), false}, {gregorian, date(2024, 2, 29), true}, {gregorian, date(2024, 2, 30), false}, {gregorian, date(1900, 2, 29), false}, {gregorian, date(2000, 2, 29), true}, {gregorian, date(0, 2, 29), true},
		{given("julian"), date(1900, 2, 29), true}, {given("julian"), date(1901, 2, 29), false}, {fixed, date(2023, 13, 29), true}, {fixed, date(2023, 13, 30), false}, {fixed, date(2024, 13, 30), true}, {fixed, date(2024, 13, 31), false}, {fixed, date(2024, 14, 1), false}, {fixed, date(2024, 1, 29), false}, {egyptian, date(1, 13, 5), true}, {egyptian, date(1, 13, 6), false}, {egyptian, date(1, 12, 30), true}, {egyptian, date(1, 12, 31), false},
		{own("a 60 1", "2 1 yes"), date(0, 1, 60), true}, {own("a 60 1", "2 1 yes"), date(1, 1, 1), true}, {own("a 60 1", "2 1 yes"), date(1, 1, 2), false}, {own("a 60 1", "2 1 yes"), date(0, 1, 61), false}, {own("a 60 1", "2 1 yes"), date(0, 2, 1), false}, {gregorian, impl.Date{}, false}, {impl.Calendar{}, date(0, 1, 1), false},
	} {
		if got := impl.ValidDate(c.calendar, c.d); got != c.want || almanacOf(c.calendar).has(c.d) != c.want {
			t.Errorf("ValidDate(%v, %v): got %t, want %t", c.calendar, c.d, got, c.want)
		}
	}
	for _, c := range goodCalendars() {
		a := almanacOf(c)
		for _, year := range []int64{-1, 0, 1, 3, 4, 999, 1000, 1900, 2000, 9998, 9999, 10000} {
			for month := int64(-1); month <= int64(len(c.Months))+1; month++ {
				for day := int64(-1); day <= 62; day++ {
					d := date(year, month, day)
					n, code := a.number(d)
					checkDay(t, c, d, n, code)
				}
			}
		}
		for _, d := range notDates() {
			checkDay(t, c, d, 0, impl.ErrRange)
		}
		for _, far := range farNumbers() {
			for _, d := range []impl.Date{date(far, 1, 1), date(1, far, 1), date(1, 1, far)} {
				checkDay(t, c, d, 0, impl.ErrRange)
			}
		}
	}
	for _, bad := range badCalendars() {
		for _, d := range append(notDates(), date(0, 1, 1), date(2000, 1, 1)) {
			checkDay(t, bad, d, 0, impl.ErrInvalid)
		}
	}
}

func TestPromise16DaysAreNumberedInOrder(t *testing.T) {
	for _, c := range []impl.Calendar{
		own("a 1", ""), own("a 1 2", "2 1 yes"), own("a 2 1", "3 0 yes, 3 1 no"), own("a 1 2, b 2 1", "4 0 yes, 6 0 no"), own("a 1, b 1, c 1", ""), own("a 3 1, b 1 4", "4 0 yes, 100 0 no, 400 0 yes"), own("a 1 3", "1000 0 yes, 16 15 yes"), own("a 1 3", "1 0 yes"), own("a 4, b 1 2", "7 6 yes"),
	} {
		day := int64(0)
		for year := range int64(10000) {
			for i, length := range lengthsIn(c, year) {
				for k := range length {
					checkNumbered(t, c, date(year, int64(i)+1, k+1), day)
					day++
				}
				checkDay(t, c, date(year, int64(i)+1, length+1), 0, impl.ErrRange)
			}
		}
		checkLast(t, c, day-1, impl.OK)
		checkDate(t, c, day, impl.Date{}, impl.ErrRange)
		checkDate(t, c, -1, impl.Date{}, impl.ErrRange)
	}
	// All days of some years of longer calendars.
	for _, c := range goodCalendars() {
		a := almanacOf(c)
		for _, year := range []int64{0, 1, 4, 1899, 1999, 9999} {
			for day := a.starts[year]; day < a.starts[year+1]; day++ {
				d, _ := a.date(day)
				checkNumbered(t, c, d, day)
			}
		}
	}
}

func TestPromise16DaysOfGivenCalendars(t *testing.T) {
	gregorian, julian, fixed, egyptian := given("gregorian"), given("julian"), given("fixed"), given("egyptian")
	for _, c := range []struct {
		calendar impl.Calendar
		d        impl.Date
		day      int64
	}{
		{gregorian, date(2000, 3, 1), 730545}, {gregorian, date(0, 1, 1), 0}, {gregorian, date(0, 12, 31), 365}, {gregorian, date(1, 1, 1), 366}, {gregorian, date(400, 1, 1), 146097}, {gregorian, date(399, 12, 31), 146096}, {gregorian, date(9999, 12, 31), 3652424}, {gregorian, date(1970, 1, 1), 719528}, {gregorian, date(0, 2, 29), 59}, {gregorian, date(0, 3, 1), 60}, {gregorian, date(1, 2, 28), 424}, {gregorian, date(1, 3, 1), 425},
		{julian, date(4, 1, 1), 1461}, {julian, date(3, 12, 31), 1460}, {julian, date(0, 12, 31), 365}, {julian, date(9999, 12, 31), 3652499}, {fixed, date(0, 13, 30), 365}, {fixed, date(1, 1, 1), 366}, {fixed, date(2000, 3, 5), 730545}, {fixed, date(9999, 13, 29), 3652424}, {egyptian, date(1, 1, 1), 365}, {egyptian, date(0, 13, 5), 364}, {egyptian, date(9999, 13, 5), 3649999}, {egyptian, date(2, 3, 4), 793},
	} {
		checkNumbered(t, c.calendar, c.d, c.day)
	}
	for _, c := range []struct {
		name string
		last int64
	}{{"egyptian", 3649999}, {"fixed", 3652424}, {"gregorian", 3652424}, {"julian", 3652499}} {
		checkLast(t, given(c.name), c.last, impl.OK)
		checkDate(t, given(c.name), c.last+1, impl.Date{}, impl.ErrRange)
	}
	// The days of the gregorian calendar by the package time.
	first := time.Date(0, 1, 1, 0, 0, 0, 0, time.UTC).Unix() / 86400
	for day := int64(0); day <= 3652424; day += 131 {
		at := time.Unix((first+day)*86400, 0).UTC()
		checkNumbered(t, gregorian, date(int64(at.Year()), int64(at.Month()), int64(at.Day())), day)
		// Monday is the first day of the week, and the first day of the calendar a Saturday.
		checkWeekday(t, gregorian, date(int64(at.Year()), int64(at.Month()), int64(at.Day())), 6, (int64(at.Weekday())+6)%7+1, impl.OK)
	}
	for year := int64(0); year < 10000; year += 7 {
		checkNumbered(t, egyptian, date(year, 5, 6), 365*year+125)
		checkNumbered(t, julian, date(year, 1, 31), 365*year+(year+3)/4+30)
		at := time.Date(int(year), 1, 1, 0, 0, 0, 0, time.UTC).Unix()/86400 - first
		checkNumbered(t, fixed, date(year, 1, 1), at)
		checkNumbered(t, fixed, date(year, 12, 28), at+335)
		checkNumbered(t, fixed, date(year, 13, 29), at+364)
	}
}

func TestPromise16DaysAreRestoredFromTheirNumbers(t *testing.T) {
	source := rand.New(rand.NewSource(161))
	list := goodCalendars()
	for range 150 {
		list = append(list, anyCalendar(source))
	}
	firstYears := map[bool]int{}
	for _, c := range list {
		a := almanacOf(c)
		firstYears[isLeapByRules(c, 0)]++
		checkLast(t, c, a.last(), impl.OK)
		days := daysAtEnds(a, source)
		for range 100 {
			days = append(days, source.Int63n(a.last()+1))
		}
		for _, day := range days {
			want, wantCode := a.date(day)
			checkDate(t, c, day, want, wantCode)
			if wantCode == impl.OK {
				checkDay(t, c, want, day, impl.OK)
			}
		}
		for _, day := range append(farNumbers(), -2, -365, a.last()+2, a.last()+365, 2*a.last()) {
			want, code := a.date(day)
			checkDate(t, c, day, want, code)
		}
	}
	if firstYears[true] < 20 || firstYears[false] < 20 {
		t.Errorf("the first years are not of both kinds: %v", firstYears)
	}
	for _, bad := range badCalendars() {
		checkLast(t, bad, 0, impl.ErrInvalid)
		for _, day := range append(farNumbers(), -1, 0, 1, 365, 12000000) {
			checkDate(t, bad, day, impl.Date{}, impl.ErrInvalid)
		}
	}
}

func TestPromise16LastDay(t *testing.T) {
	for _, c := range []struct {
		calendar impl.Calendar
		want     int64
		d        impl.Date
	}{
		{own("a 1", ""), 9999, date(9999, 1, 1)}, {own("a 1 60", "1 0 yes"), 599999, date(9999, 1, 60)}, {own("a 30 31", "4 0 yes"), 302499, date(9999, 1, 30)}, {own("a 30 31", "4 3 yes"), 302499, date(9999, 1, 31)}, {own("a 30, b 5 6", "10 9 yes"), 350999, date(9999, 2, 6)}, {own("a 5 6", "1000 999 yes"), 50009, date(9999, 1, 6)},
		{impl.Calendar{Name: "own", Months: sixties(20), Week: 1}, 11999999, date(9999, 20, 60)}, {fullCalendar(), 10099999, date(9999, 20, 60)}, {own("a 5 6", "999 0 yes, 2 0 no"), 50004, date(9999, 1, 5)}, {own("a 2 1", "3 0 yes"), 16665, date(9999, 1, 1)},
	} {
		checkLast(t, c.calendar, c.want, impl.OK)
		checkNumbered(t, c.calendar, c.d, c.want)
		checkNumbered(t, c.calendar, date(0, 1, 1), 0)
		checkDate(t, c.calendar, -1, impl.Date{}, impl.ErrRange)
		checkDate(t, c.calendar, c.want+1, impl.Date{}, impl.ErrRange)
	}
}

func TestPromise16AddDays(t *testing.T) {
	gregorian := given("gregorian")
	lengths := own("a 1 2, b 3 1", "2 1 yes")
	for _, c := range []struct {
		calendar impl.Calendar
		d        impl.Date
		days     int64
		want     impl.Date
	}{
		{gregorian, date(2023, 12, 31), 1, date(2024, 1, 1)}, {gregorian, date(2024, 1, 1), -1, date(2023, 12, 31)}, {gregorian, date(2023, 12, 31), 0, date(2023, 12, 31)}, {gregorian, date(2024, 2, 28), 1, date(2024, 2, 29)}, {gregorian, date(2024, 2, 29), 1, date(2024, 3, 1)}, {gregorian, date(2024, 3, 1), -1, date(2024, 2, 29)}, {gregorian, date(2023, 2, 28), 1, date(2023, 3, 1)}, {gregorian, date(2023, 3, 1), -1, date(2023, 2, 28)}, {gregorian, date(2023, 4, 30), 1, date(2023, 5, 1)}, {gregorian, date(2000, 1, 1), 366, date(2001, 1, 1)}, {gregorian, date(2001, 1, 1), 365, date(2002, 1, 1)}, {gregorian, date(2001, 1, 1), -366, date(2000, 1, 1)}, {gregorian, date(0, 1, 1), 146097, date(400, 1, 1)}, {gregorian, date(9999, 12, 31), -146097, date(9599, 12, 31)},
		{gregorian, date(0, 1, 1), 0, date(0, 1, 1)}, {gregorian, date(0, 1, 1), 3652424, date(9999, 12, 31)}, {gregorian, date(9999, 12, 31), -3652424, date(0, 1, 1)}, {gregorian, date(9999, 12, 30), 1, date(9999, 12, 31)}, {gregorian, date(9999, 12, 31), 0, date(9999, 12, 31)}, {gregorian, date(0, 1, 2), -1, date(0, 1, 1)},
		{lengths, date(0, 1, 1), 1, date(0, 2, 1)}, {lengths, date(0, 2, 3), 1, date(1, 1, 1)}, {lengths, date(1, 1, 2), 1, date(1, 2, 1)}, {lengths, date(1, 2, 1), 1, date(2, 1, 1)}, {lengths, date(2, 1, 1), -1, date(1, 2, 1)}, {lengths, date(1, 1, 1), -2, date(0, 2, 2)}, {lengths, date(0, 1, 1), 7, date(2, 1, 1)},
	} {
		checkAddDays(t, c.calendar, c.d, c.days, c.want, impl.OK)
		checkAddDays(t, c.calendar, c.want, -c.days, c.d, impl.OK)
		checkBetween(t, c.calendar, c.d, c.want, c.days, impl.OK)
	}
	// One day behind the last day, before the first one, and far away.
	for _, c := range []struct {
		d    impl.Date
		days int64
	}{
		{date(9999, 12, 31), 1}, {date(0, 1, 1), -1}, {date(9999, 12, 30), 2}, {date(0, 1, 2), -2}, {date(0, 1, 1), 3652425}, {date(9999, 12, 31), -3652425}, {date(2000, 3, 1), -730546}, {date(2000, 3, 1), 2921880}, {date(0, 1, 1), greatest}, {date(0, 1, 1), least}, {date(9999, 12, 31), greatest}, {date(9999, 12, 31), least}, {date(0, 1, 2), greatest}, {date(0, 1, 2), least}, {date(2000, 3, 1), greatest}, {date(2000, 3, 1), least}, {date(2000, 3, 1), greatest - 730544}, {date(2000, 3, 1), greatest - 730545}, {date(2000, 3, 1), least + 730545}, {date(2000, 3, 1), 1 << 32}, {date(2000, 3, 1), -1 << 32},
	} {
		checkAddDays(t, gregorian, c.d, c.days, impl.Date{}, impl.ErrRange)
	}
	checkAddDays(t, gregorian, date(2000, 3, 1), 2921879, date(9999, 12, 31), impl.OK)
	checkAddDays(t, gregorian, date(2000, 3, 1), -730545, date(0, 1, 1), impl.OK)
	for _, days := range append(farNumbers(), 0, 1, -1, 1000) {
		for _, d := range append(notDates(), date(2023, 2, 29), date(2000, 13, 1)) {
			checkAddDays(t, gregorian, d, days, impl.Date{}, impl.ErrRange)
		}
	}
}

func TestPromise16DaysBetween(t *testing.T) {
	gregorian := given("gregorian")
	for _, c := range []struct {
		d, e impl.Date
		want int64
	}{
		{date(2000, 3, 1), date(2000, 3, 1), 0}, {date(2000, 3, 1), date(2001, 3, 1), 365}, {date(1999, 3, 1), date(2000, 3, 1), 366}, {date(2000, 2, 28), date(2000, 3, 1), 2}, {date(1900, 2, 28), date(1900, 3, 1), 1}, {date(0, 1, 1), date(9999, 12, 31), 3652424}, {date(0, 1, 1), date(0, 1, 2), 1}, {date(1582, 10, 15), date(2000, 1, 1), 152384}, {date(0, 1, 1), date(0, 1, 1), 0}, {date(9999, 12, 31), date(9999, 12, 31), 0},
	} {
		checkBetween(t, gregorian, c.d, c.e, c.want, impl.OK)
		checkBetween(t, gregorian, c.e, c.d, -c.want, impl.OK)
	}
	for _, bad := range append(notDates(), date(2023, 2, 29), date(2023, 4, 31), date(2023, 13, 1)) {
		checkBetween(t, gregorian, bad, date(2000, 3, 1), 0, impl.ErrRange)
		checkBetween(t, gregorian, date(2000, 3, 1), bad, 0, impl.ErrRange)
		checkBetween(t, gregorian, bad, bad, 0, impl.ErrRange)
	}
}

func TestPromise16WeekdayOf(t *testing.T) {
	gregorian, egyptian := given("gregorian"), given("egyptian")
	one := impl.Calendar{Name: "own", Months: months("a 10"), Week: 1}
	twelve := impl.Calendar{Name: "own", Months: months("a 10"), Week: 12}
	for _, c := range []struct {
		calendar    impl.Calendar
		d           impl.Date
		first, want int64
	}{
		{gregorian, date(2000, 3, 1), 6, 3}, {gregorian, date(0, 1, 1), 6, 6}, {gregorian, date(0, 1, 1), 1, 1}, {gregorian, date(0, 1, 1), 7, 7}, {gregorian, date(0, 1, 2), 7, 1}, {gregorian, date(0, 1, 2), 1, 2}, {gregorian, date(0, 1, 7), 1, 7}, {gregorian, date(0, 1, 8), 1, 1}, {gregorian, date(9999, 12, 31), 6, 5}, {gregorian, date(1970, 1, 1), 6, 4}, {egyptian, date(0, 1, 10), 1, 10}, {egyptian, date(0, 1, 10), 10, 9}, {egyptian, date(0, 2, 1), 4, 4}, {egyptian, date(1, 1, 1), 1, 6},
		{one, date(0, 1, 1), 1, 1}, {one, date(5, 1, 7), 1, 1}, {one, date(9999, 1, 10), 1, 1}, {twelve, date(0, 1, 1), 12, 12}, {twelve, date(0, 1, 2), 12, 1}, {twelve, date(0, 1, 10), 3, 12}, {twelve, date(1, 1, 1), 3, 1}, {twelve, date(9999, 1, 10), 12, 3},
	} {
		checkWeekday(t, c.calendar, c.d, c.first, c.want, impl.OK)
	}
	for _, first := range append(farNumbers(), 0, -1, -7, 8, 9, 14) {
		checkWeekday(t, gregorian, date(2000, 3, 1), first, 0, impl.ErrRange)
	}
	for _, first := range []int64{0, 2, -1, 7} {
		checkWeekday(t, one, date(0, 1, 1), first, 0, impl.ErrRange)
	}
	for _, first := range []int64{0, 13, -1, 14} {
		checkWeekday(t, twelve, date(0, 1, 1), first, 0, impl.ErrRange)
	}
	// Consecutive days have consecutive days of the week, for all weeks and first days.
	for week := int64(1); week <= 12; week++ {
		c := impl.Calendar{Name: "own", Months: months("a 1 2, b 1"), Rules: rules("2 1 yes"), Week: week}
		for first := int64(1); first <= week; first++ {
			want := first
			for day := range int64(60) {
				d, _ := impl.DateOf(c, day)
				checkWeekday(t, c, d, first, want, impl.OK)
				want++
				if want > week {
					want = 1
				}
			}
		}
		checkWeekday(t, c, date(0, 1, 1), week+1, 0, impl.ErrRange)
		checkWeekday(t, c, date(0, 1, 1), 0, 0, impl.ErrRange)
	}
	for _, bad := range append(notDates(), date(2023, 2, 29)) {
		for _, first := range []int64{0, 1, 7, 8, least, greatest} {
			checkWeekday(t, gregorian, bad, first, 0, impl.ErrRange)
		}
	}
}

func TestPromise16ConvertDate(t *testing.T) {
	gregorian, julian, fixed, egyptian := given("gregorian"), given("julian"), given("fixed"), given("egyptian")
	short, long := own("a 1", ""), impl.Calendar{Name: "own", Months: sixties(20), Week: 1}
	for _, c := range []struct {
		from  impl.Calendar
		d     impl.Date
		to    impl.Calendar
		shift int64
		want  impl.Date
	}{
		{gregorian, date(2000, 3, 1), julian, 2, date(2000, 2, 17)}, {gregorian, date(2000, 3, 1), gregorian, 0, date(2000, 3, 1)}, {gregorian, date(1582, 10, 15), julian, 2, date(1582, 10, 5)}, {julian, date(1917, 10, 25), gregorian, -2, date(1917, 11, 7)}, {gregorian, date(2000, 3, 1), fixed, 0, date(2000, 3, 5)}, {gregorian, date(2024, 12, 31), fixed, 0, date(2024, 13, 30)}, {gregorian, date(0, 1, 1), egyptian, 0, date(0, 1, 1)}, {gregorian, date(0, 12, 31), egyptian, 0, date(1, 1, 1)}, {gregorian, date(0, 12, 31), egyptian, -1, date(0, 13, 5)}, {egyptian, date(9999, 13, 5), gregorian, 2425, date(9999, 12, 31)}, {gregorian, date(0, 1, 1), gregorian, 3652424, date(9999, 12, 31)}, {gregorian, date(9999, 12, 31), gregorian, -3652424, date(0, 1, 1)}, {julian, date(9999, 12, 31), gregorian, -75, date(9999, 12, 31)},
		// Calendars of different lengths.
		{short, date(9999, 1, 1), long, 0, date(8, 7, 40)}, {long, date(8, 7, 40), short, 0, date(9999, 1, 1)}, {long, date(9999, 20, 60), short, -11999999, date(0, 1, 1)}, {long, date(9999, 20, 60), short, -11990000, date(9999, 1, 1)}, {short, date(0, 1, 1), long, 11999999, date(9999, 20, 60)}, {short, date(9999, 1, 1), long, -9999, date(0, 1, 1)}, {long, date(0, 1, 1), short, 0, date(0, 1, 1)},
	} {
		checkConverted(t, c.from, c.d, c.to, c.shift, c.want, impl.OK)
		checkConverted(t, c.to, c.want, c.from, -c.shift, c.d, impl.OK)
	}
	for _, c := range []struct {
		from  impl.Calendar
		d     impl.Date
		to    impl.Calendar
		shift int64
	}{
		{gregorian, date(0, 1, 1), gregorian, -1}, {gregorian, date(9999, 12, 31), gregorian, 1}, {julian, date(9999, 12, 31), gregorian, 0}, {julian, date(9999, 12, 31), gregorian, -74}, {gregorian, date(9999, 12, 31), egyptian, -2424}, {gregorian, date(9999, 12, 31), julian, 76}, {long, date(8, 7, 41), short, 0}, {long, date(9999, 20, 60), short, 0}, {long, date(9999, 20, 60), short, -12000000}, {long, date(9999, 20, 60), short, -11989999}, {short, date(9999, 1, 1), long, -10000}, {short, date(9999, 1, 1), long, 11990001}, {short, date(0, 1, 1), long, 12000000},
	} {
		checkConverted(t, c.from, c.d, c.to, c.shift, impl.Date{}, impl.ErrRange)
	}
	for _, both := range [][2]impl.Calendar{{gregorian, julian}, {short, long}, {long, short}} {
		a, b := almanacOf(both[0]), almanacOf(both[1])
		end, _ := a.date(a.last())
		for _, shift := range append(farNumbers(), least+1000, greatest-1000, greatest-9999, greatest-11999999, greatest-12000000, least+11999999, 1<<62, -1<<62, 12000000, -12000000) {
			for _, d := range []impl.Date{date(0, 1, 1), date(1, 1, 1), date(5000, 1, 1), end} {
				want, code := a.converted(d, b, shift)
				checkConverted(t, both[0], d, both[1], shift, want, code)
			}
		}
		for _, shift := range []int64{least, least + 1, greatest - 1, greatest} {
			checkConverted(t, both[0], date(0, 1, 1), both[1], shift, impl.Date{}, impl.ErrRange)
			checkConverted(t, both[0], end, both[1], shift, impl.Date{}, impl.ErrRange)
		}
	}
}

func TestPromise16DaysAreRestoredByWayOfOtherCalendars(t *testing.T) {
	source := rand.New(rand.NewSource(162))
	var list []almanac
	for _, c := range goodCalendars() {
		list = append(list, almanacOf(c))
	}
	for range 40 {
		list = append(list, almanacOf(anyCalendar(source)))
	}
	converted := 0
	for range 12000 {
		a, b, c := list[source.Intn(len(list))], list[source.Intn(len(list))], list[source.Intn(len(list))]
		day := []int64{0, a.last(), source.Int63n(a.last() + 1), source.Int63n(a.last() + 1)}[source.Intn(4)]
		shift := []int64{0, -day, b.last() - day, -day - 1, b.last() - day + 1, source.Int63n(b.last()+1) - day, source.Int63n(1000) - 500}[source.Intn(7)]
		d, _ := a.date(day)
		want, wantCode := a.converted(d, b, shift)
		checkConverted(t, a.Calendar, d, b.Calendar, shift, want, wantCode)
		if wantCode != impl.OK {
			continue
		}
		converted++
		checkConverted(t, b.Calendar, want, a.Calendar, -shift, d, impl.OK)
		checkConverted(t, a.Calendar, d, a.Calendar, 0, d, impl.OK)
		// By way of a third calendar, if it has such a day.
		third, code := impl.ConvertDate(b.Calendar, want, c.Calendar, 7)
		if code == impl.OK {
			checkConverted(t, c.Calendar, third, a.Calendar, -7-shift, d, impl.OK)
			checkConverted(t, a.Calendar, d, c.Calendar, 7+shift, third, impl.OK)
		}
	}
	if converted < 5000 {
		t.Errorf("only %d days were converted", converted)
	}
}

func TestPromise16CompareDate(t *testing.T) {
	for _, c := range []struct {
		a, b impl.Date
		want int64
	}{
		{date(2000, 3, 1), date(2000, 3, 1), 0}, {impl.Date{}, impl.Date{}, 0},
		// Decided by the Year, by the Month and by the Day.
		{date(1999, 12, 31), date(2000, 1, 1), -1}, {date(1999, 3, 1), date(2000, 3, 1), -1}, {date(1999, 3, 2), date(2000, 3, 1), -1}, {date(1999, 4, 1), date(2000, 3, 1), -1}, {date(2000, 2, 29), date(2000, 3, 1), -1}, {date(2000, 2, 1), date(2000, 3, 1), -1}, {date(2000, 3, 1), date(2000, 3, 2), -1}, {date(2000, 3, 9), date(2000, 3, 10), -1}, {date(2000, 9, 9), date(2000, 10, 1), -1}, {date(999, 9, 9), date(1000, 1, 1), -1},
		// Days of no calendar.
		{date(-1, 5, 5), date(0, 0, 0), -1}, {date(-2, 5, 5), date(-1, 0, 0), -1}, {date(5, -7, 99), date(5, -6, 0), -1}, {date(5, 5, -2), date(5, 5, -1), -1}, {date(5, 100, 100), date(6, -100, -100), -1}, {date(10000, 1, 1), date(10001, 1, 1), -1}, {date(least, 0, 0), date(greatest, 0, 0), -1}, {date(0, least, 0), date(0, greatest, 0), -1}, {date(0, 0, least), date(0, 0, greatest), -1}, {date(least, greatest, greatest), date(greatest, least, least), -1}, {date(greatest-1, 0, 0), date(greatest, 0, 0), -1}, {date(least, 5, 6), date(least+1, 5, 6), -1}, {date(-1, 0, 0), date(greatest, 0, 0), -1}, {date(least, 0, 0), date(1, 0, 0), -1}, {date(0, 0, least), date(0, 0, 1), -1}, {date(1<<32, 0, 0), date(1<<32+1, 0, 0), -1}, {date(1, 0, 0), date(1<<32, 0, 0), -1},
	} {
		checkOrder(t, c.a, c.b, c.want)
		checkOrder(t, c.b, c.a, -c.want)
		checkOrder(t, c.a, c.a, 0)
		checkOrder(t, c.b, c.b, 0)
	}
	source := rand.New(rand.NewSource(163))
	numbers := append(farNumbers(), -1, 0, 1, 2, 9999, 10000)
	pick := func() impl.Date {
		return date(numbers[source.Intn(len(numbers))], numbers[source.Intn(len(numbers))], numbers[source.Intn(len(numbers))])
	}
	for range 20000 {
		a, b := pick(), pick()
		switch source.Intn(3) {
		case 0:
			b.Year = a.Year
		case 1:
			b.Year, b.Month = a.Year, a.Month
		}
		checkOrder(t, a, b, expectOrder(a, b))
		checkOrder(t, b, a, -expectOrder(a, b))
	}
	// The order of days is that of their numbers.
	for _, c := range goodCalendars() {
		a := almanacOf(c)
		for range 200 {
			n, m := source.Int63n(a.last()+1), source.Int63n(a.last()+1)
			if source.Intn(2) == 0 {
				m = min(n+source.Int63n(3), a.last())
			}
			d, _ := impl.DateOf(c, n)
			e, _ := impl.DateOf(c, m)
			checkOrder(t, d, e, int64(cmp.Compare(n, m)))
		}
	}
}

func TestPromise16DateText(t *testing.T) {
	for _, c := range []struct {
		d    impl.Date
		want string
	}{
		{date(2000, 3, 1), "2000-3-1"}, {impl.Date{}, "0-0-0"}, {date(9999, 12, 31), "9999-12-31"}, {date(1, 2, 3), "1-2-3"}, {date(0, 10, 0), "0-10-0"}, {date(9999, 9999, 9999), "9999-9999-9999"}, {date(12, 0, 3), "12-0-3"}, {date(10, 20, 30), "10-20-30"}, {date(5, 9999, 0), "5-9999-0"},
		{date(-1, 1, 1), ""}, {date(1, -1, 1), ""}, {date(1, 1, -1), ""}, {date(10000, 1, 1), ""}, {date(1, 10000, 1), ""}, {date(1, 1, 10000), ""}, {date(-1, -1, -1), ""}, {date(10000, 10000, 10000), ""},
	} {
		if got := impl.DateText(c.d); got != c.want || expectDateText(c.d) != c.want {
			t.Errorf("DateText(%v): got %q, want %q", c.d, got, c.want)
		}
		if c.want != "" {
			if got, ok := impl.ReadDate(c.want); got != c.d || !ok {
				t.Errorf("ReadDate(%q): got %v %t, want %v", c.want, got, ok, c.d)
			}
		}
	}
	numbers := append(farNumbers(), -1, 0, 1, 9, 10, 99, 100, 999, 1000, 9998, 9999, 10000, 10001)
	for _, year := range numbers {
		for _, month := range numbers {
			for _, day := range numbers {
				d := date(year, month, day)
				got := impl.DateText(d)
				if got != expectDateText(d) {
					t.Errorf("DateText(%v): got %q, want %q", d, got, expectDateText(d))
				}
				if read, ok := impl.ReadDate(got); ok != (got != "") || ok && read != d || !ok && read != (impl.Date{}) {
					t.Errorf("ReadDate(%q): got %v %t, want %v", got, read, ok, d)
				}
				checkReadDate(t, fmt.Sprintf("%d-%d-%d", year, month, day))
			}
		}
	}
}

func TestPromise16ReadDate(t *testing.T) {
	for _, s := range []string{
		"", "-", "--", "---", " ", "\n", "1", "1-2", "1-2-", "-1-2", "1--2", "-1-2-3", "1--2-3", "1-2--3", "1-2-3-", "-", "1-2-3-4", "1-2-3-0", "1-2-3-4-5", "-2-3", "1--3", "1-2-", "--3", "1--", "a", "a-b-c", "1-b-3", "a-2-3", "1-2-c", "today",
		"+1-2-3", "1-+2-3", "1-2-+3", "01-2-3", "1-02-3", "1-2-03", "00-2-3", "1-00-3", "1-2-00", "0001-2-3", "2000-03-01", "2000-03-1", "2000-3-01", "-0-2-3", "1--0-3", "1-2--0", "1-2--1",
		" 1-2-3", "1-2-3 ", "1 -2-3", "1- 2-3", "1-2 -3", "1-2- 3", "1 2 3", "1-2 3", "1 2-3", "1-2-3\n", "\n1-2-3", "1-2-3\r", "1\t-2-3", "1-2-3\x00", "1-2-\xff", "1-2-3\u00a0", "1/2/3", "1.2.3", "1:2:3", "1–2–3", "1−2−3", "1,2,3", "１-2-3",
		"10000-2-3", "1-10000-3", "1-2-10000", "99999-2-3", "4294967297-2-3", "1-4294967298-3", "1-2-4294967299", "999999999999999999-2-3", "1-999999999999999999-3", "1-2-999999999999999999", "1000000000000000000-2-3", "1-1000000000000000000-3", "1-2-1000000000000000000", "18446744073709551617-2-3", "1-18446744073709551618-3", "1-2-18446744073709551619", "1.0-2-3", "1e3-2-3", "0x1-2-3", "1_0-2-3",
		strings.Repeat("-", 100000), strings.Repeat("1-", 50000), strings.Repeat("9", 100000) + "-1-1", "1-1-" + strings.Repeat("0", 100000) + "1", "1-2-3" + strings.Repeat(" ", 100000), strings.Repeat("1-2-3", 20000),
	} {
		if got, ok := impl.ReadDate(s); got != (impl.Date{}) || ok {
			t.Errorf("ReadDate(%.100q): got %v %t, want none", s, got, ok)
		}
		checkReadDate(t, s)
	}
	for _, text := range []string{"2000-3-1", "0-0-0", "9999-12-31", "10-20-30"} {
		if !checkReadDate(t, text) {
			t.Errorf("ReadDate(%q): got false, want true", text)
		}
		checkChanges(t, text, checkReadDate)
	}
	// All short texts of some bytes.
	var try func(s string, left int)
	try = func(s string, left int) {
		checkReadDate(t, s)
		if left == 0 {
			return
		}
		for _, c := range "01-+ " {
			try(s+string(c), left-1)
		}
	}
	try("", 7)
}

func TestPromise16ErrorsInTheirOrder(t *testing.T) {
	gregorian, julian, short := given("gregorian"), given("julian"), own("a 1", "")
	none := append(notDates(), date(2023, 2, 29), date(2000, 13, 1))
	for _, bad := range badCalendars() {
		// Instead of each ErrRange, and of all of them at once.
		for _, d := range []impl.Date{date(2000, 1, 1), date(0, 1, 1), {}, date(-1, 1, 1), date(10000, 1, 1), date(5, 0, 1), date(5, 1, 0), date(5, 1, 61), date(least, greatest, least)} {
			checkDay(t, bad, d, 0, impl.ErrInvalid)
			for _, days := range []int64{0, 1, -1, least, greatest} {
				checkAddDays(t, bad, d, days, impl.Date{}, impl.ErrInvalid)
				checkConverted(t, bad, d, gregorian, days, impl.Date{}, impl.ErrInvalid)
				checkConverted(t, gregorian, d, bad, days, impl.Date{}, impl.ErrInvalid)
				checkConverted(t, bad, d, bad, days, impl.Date{}, impl.ErrInvalid)
			}
			for _, e := range []impl.Date{date(2000, 1, 1), {}, date(greatest, least, greatest)} {
				checkBetween(t, bad, d, e, 0, impl.ErrInvalid)
				checkBetween(t, bad, e, d, 0, impl.ErrInvalid)
			}
			for _, first := range []int64{0, 1, 7, 13, least, greatest} {
				checkWeekday(t, bad, d, first, 0, impl.ErrInvalid)
			}
		}
		for _, day := range []int64{0, -1, 100, least, greatest} {
			checkDate(t, bad, day, impl.Date{}, impl.ErrInvalid)
		}
		checkLast(t, bad, 0, impl.ErrInvalid)
	}
	// All later errors have the same code.
	for _, d := range none {
		for _, days := range append(farNumbers(), 0, 1, -1) {
			checkConverted(t, gregorian, d, julian, days, impl.Date{}, impl.ErrRange)
			checkConverted(t, gregorian, d, short, days, impl.Date{}, impl.ErrRange)
		}
		// A day of the other calendar alone.
		checkConverted(t, gregorian, date(1900, 2, 29), julian, 0, impl.Date{}, impl.ErrRange)
	}
	checkConverted(t, julian, date(1900, 2, 29), gregorian, -2, date(1900, 3, 13), impl.OK)
}

// dateResults returns all that the functions of dates tell.
func dateResults(c, other impl.Calendar, d, e impl.Date, n, first int64) string {
	var text strings.Builder
	tell := func(values ...any) { text.WriteString(fmt.Sprintln(values...)) }
	tell(impl.ValidDate(c, d))
	day, code := impl.DayOf(c, d)
	tell(day, code)
	at, code := impl.DateOf(c, n)
	tell(at, code)
	day, code = impl.LastDay(c)
	tell(day, code)
	at, code = impl.AddDays(c, d, n)
	tell(at, code)
	day, code = impl.DaysBetween(c, d, e)
	tell(day, code)
	day, code = impl.WeekdayOf(c, d, first)
	tell(day, code)
	at, code = impl.ConvertDate(c, d, other, n)
	tell(at, code)
	tell(impl.CompareDate(d, e), impl.DateText(d))
	read, ok := impl.ReadDate(impl.DateText(d))
	tell(read, ok)
	return text.String()
}

func TestPromise16AllFunctionsWithAnyNumbers(t *testing.T) {
	source := rand.New(rand.NewSource(164))
	var list []almanac
	for _, c := range append(goodCalendars(), badCalendars()[:30]...) {
		list = append(list, almanacOf(c))
	}
	numbers := append(farNumbers(), -1, 0, 1, 2, 13, 28, 29, 30, 31, 32, 60, 61, 365, 366, 9999, 10000, 3652424, 3652425)
	pick := func() int64 { return numbers[source.Intn(len(numbers))] }
	for range 20000 {
		a, b := list[source.Intn(len(list))], list[source.Intn(len(list))]
		d, e := date(source.Int63n(10000), 1+source.Int63n(13), 1+source.Int63n(30)), date(source.Int63n(10000), 1, 1)
		day, days, first := source.Int63n(4000000), source.Int63n(2000000)-1000000, 1+source.Int63n(7)
		fields := []*int64{&d.Year, &d.Month, &d.Day, &e.Year, &e.Month, &e.Day, &day, &days, &first}
		for range source.Intn(4) {
			*fields[source.Intn(len(fields))] = pick()
		}
		checkDateFunctions(t, a, b, d, e, day, days, first)
	}
}

func TestPromise1CalendarsOfDatesAreNotModified(t *testing.T) {
	source := rand.New(rand.NewSource(165))
	list := append(goodCalendars(), badCalendars()...)
	for i, c := range list {
		c, other := crowdedCalendar(c), crowdedCalendar(list[(i+1)%len(list)])
		whole, wholeOther := wholeCalendar(c), wholeCalendar(other)
		d, e := date(source.Int63n(10000), 1, 1), date(source.Int63n(10000), 1, 1)
		want := dateResults(c, other, d, e, 100, 1)
		if wholeCalendar(c) != whole || wholeCalendar(other) != wholeOther {
			t.Errorf("the functions of dates changed %s to %s, or %s to %s", whole, wholeCalendar(c), wholeOther, wholeCalendar(other))
		}
		if got := dateResults(copyOfCalendar(c), copyOfCalendar(other), d, e, 100, 1); got != want {
			t.Errorf("results for %v: got %s, but %s before", c, got, want)
		}
	}
	nothing, empty := ruled(""), impl.Calendar{Name: "own", Months: months("a 30 31"), Rules: []impl.LeapRule{}, Week: 7}
	if a, b := dateResults(nothing, empty, date(5, 1, 6), date(7, 1, 8), 9, 1), dateResults(empty, nothing, date(5, 1, 6), date(7, 1, 8), 9, 1); a != b {
		t.Errorf("nil rules lead to %s, empty ones to %s", a, b)
	}
}

func TestPromise1DatesFromSeveralGoroutines(t *testing.T) {
	source := rand.New(rand.NewSource(166))
	list := append(goodCalendars(), badCalendars()[:40]...)
	for range 60 {
		list = append(list, anyCalendar(source))
	}
	checkFromGoroutines(t, len(list), func(i int) string {
		n := int64(i)
		return dateResults(list[i], list[(i+1)%len(list)], date(37*n, 1+n%5, 1+n%20), date(50*n, 1, 1), 41*n, 1+n%7)
	})
}
