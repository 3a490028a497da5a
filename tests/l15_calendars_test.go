package tests

import (
	"fmt"
	"math/big"
	"math/rand"
	"reflect"
	"regexp"
	"slices"
	"strconv"
	"strings"
	"testing"
	"time"

	"loop.example/g00921/impl"
)

// months returns those of a text such as "a 30, b 28 29"; without a second number, Leap is equal to Days.
func months(text string) []impl.Month {
	var list []impl.Month
	for _, part := range strings.Split(text, ",") {
		words := strings.Fields(part)
		if len(words) == 0 {
			continue
		}
		if len(words) == 2 {
			words = append(words, words[1])
		}
		list = append(list, impl.Month{Name: words[0], Days: number(words[1]), Leap: number(words[2])})
	}
	return list
}

// rules returns those of a text such as "4 0 yes, 100 0 no".
func rules(text string) []impl.LeapRule {
	var list []impl.LeapRule
	for _, part := range strings.Split(text, ",") {
		words := strings.Fields(part)
		if len(words) == 0 {
			continue
		}
		list = append(list, impl.LeapRule{Every: number(words[0]), Rest: number(words[1]), Leap: words[2] == "yes"})
	}
	return list
}

func number(word string) int64 {
	n, err := strconv.ParseInt(word, 10, 64)
	if err != nil {
		panic(err)
	}
	return n
}

// own returns a calendar with some months and rules, which need not be valid.
func own(monthsText, rulesText string) impl.Calendar {
	return impl.Calendar{Name: "own", Months: months(monthsText), Rules: rules(rulesText), Week: 7}
}

// ruled returns a calendar of one month, of 30 days, and 31 in leap years.
func ruled(rulesText string) impl.Calendar { return own("a 30 31", rulesText) }

// given returns a calendar that is given.
func given(name string) impl.Calendar {
	c, code := impl.CalendarNamed(name)
	if code != impl.OK {
		panic(name)
	}
	return c
}

func givenNames() []string { return []string{"egyptian", "fixed", "gregorian", "julian"} }

func manyMonths(count int) []impl.Month {
	var list []impl.Month
	for i := range count {
		list = append(list, impl.Month{Name: fmt.Sprintf("m%d", i+1), Days: int64(i%60) + 1, Leap: int64(60 - i%60)})
	}
	return list
}

func manyRules(count int) []impl.LeapRule {
	var list []impl.LeapRule
	for i := range int64(count) {
		list = append(list, impl.LeapRule{Every: i + 1, Rest: i, Leap: i%2 == 0})
	}
	return list
}

// fullCalendar has as many months and rules as allowed, the longest names, and a cycle of MaxCycle years.
func fullCalendar() impl.Calendar {
	c := impl.Calendar{Name: "abcdefghijkl", Week: 12, Rules: rules("1000 999 yes, 16 15 no, 125 0 yes, 80 3 yes, 1 0 no, 500 499 yes")}
	for i := range int64(20) {
		c.Months = append(c.Months, impl.Month{Name: fmt.Sprintf("month-abc-%02d", i), Days: 60 - i, Leap: 41 + i})
	}
	return c
}

// copyOfCalendar returns a deep copy without spare capacity, in which empty slices are nil.
func copyOfCalendar(c impl.Calendar) impl.Calendar {
	c.Months = append([]impl.Month(nil), c.Months...)
	c.Rules = append([]impl.LeapRule(nil), c.Rules...)
	return c
}

func equalCalendars(a, b impl.Calendar) bool {
	return reflect.DeepEqual(copyOfCalendar(a), copyOfCalendar(b))
}

func noCalendar(c impl.Calendar) bool { return equalCalendars(c, impl.Calendar{}) }

func isYear(year int64) bool { return year >= 0 && year <= 9999 }

// commonMultiple returns the least number that is a multiple of all Every.
func commonMultiple(list []impl.LeapRule) *big.Int {
	all := big.NewInt(1)
	for _, r := range list {
		every := big.NewInt(r.Every)
		product := new(big.Int).Mul(all, every)
		all = product.Div(product, new(big.Int).GCD(nil, nil, all, every))
	}
	return all
}

func isCalendar(c impl.Calendar) bool {
	if len(c.Months) < 1 || len(c.Months) > 20 || len(c.Rules) > 6 || c.Week < 1 || c.Week > 12 || !namePattern.MatchString(c.Name) {
		return false
	}
	names := map[string]bool{}
	for _, m := range c.Months {
		if !namePattern.MatchString(m.Name) || m.Days < 1 || m.Days > 60 || m.Leap < 1 || m.Leap > 60 {
			return false
		}
		names[m.Name] = true
	}
	for _, r := range c.Rules {
		if r.Every < 1 || r.Every > 1000 || r.Rest < 0 || r.Rest > r.Every-1 {
			return false
		}
	}
	return len(names) == len(c.Months) && commonMultiple(c.Rules).Cmp(big.NewInt(2000)) <= 0
}

// isLeapByRules goes through all rules of a valid calendar, so that the last one that applies decides.
func isLeapByRules(c impl.Calendar, year int64) bool {
	leap := false
	for _, r := range c.Rules {
		if year%r.Every == r.Rest {
			leap = r.Leap
		}
	}
	return leap
}

func expectLeap(c impl.Calendar, year int64) bool {
	return isCalendar(c) && isYear(year) && isLeapByRules(c, year)
}

// lengthsIn returns the days of all months of a year of a valid calendar.
func lengthsIn(c impl.Calendar, year int64) []int64 {
	var list []int64
	for _, m := range c.Months {
		if isLeapByRules(c, year) {
			list = append(list, m.Leap)
		} else {
			list = append(list, m.Days)
		}
	}
	return list
}

func sumOf(list []int64) int64 {
	sum := int64(0)
	for _, n := range list {
		sum += n
	}
	return sum
}

func expectMonth(c impl.Calendar, year, month int64) (int64, int64) {
	if !isCalendar(c) {
		return 0, impl.ErrInvalid
	}
	if !isYear(year) || month < 1 || month > int64(len(c.Months)) {
		return 0, impl.ErrRange
	}
	return lengthsIn(c, year)[month-1], impl.OK
}

func expectYear(c impl.Calendar, year int64) (int64, int64) {
	if !isCalendar(c) {
		return 0, impl.ErrInvalid
	}
	if !isYear(year) {
		return 0, impl.ErrRange
	}
	return sumOf(lengthsIn(c, year)), impl.OK
}

func expectCycle(c impl.Calendar) (int64, int64, int64) {
	if !isCalendar(c) {
		return 0, 0, impl.ErrInvalid
	}
	years := commonMultiple(c.Rules).Int64()
	days := int64(0)
	for year := range years {
		days += sumOf(lengthsIn(c, year))
	}
	return years, days, impl.OK
}

func expectMeanYear(c impl.Calendar) (impl.Ratio, int64) {
	years, days, code := expectCycle(c)
	if code != impl.OK {
		return impl.Ratio{}, code
	}
	mean := big.NewRat(days, years)
	return over(mean.Num().Int64(), mean.Denom().Int64()), impl.OK
}

func expectCalendarText(c impl.Calendar) string {
	if !isCalendar(c) {
		return ""
	}
	text := fmt.Sprintf("calendar %s %d\n", c.Name, c.Week)
	for _, m := range c.Months {
		text += fmt.Sprintf("month %s %d %d\n", m.Name, m.Days, m.Leap)
	}
	for _, r := range c.Rules {
		text += fmt.Sprintf("leap %d %d %s\n", r.Every, r.Rest, map[bool]string{true: "yes", false: "no"}[r.Leap])
	}
	return text
}

var calendarPattern = regexp.MustCompile(`\Acalendar [^ \n]+ (?:0|[1-9][0-9]{0,17})\n(?:month [^ \n]+ (?:0|[1-9][0-9]{0,17}) (?:0|[1-9][0-9]{0,17})\n)+(?:leap (?:0|[1-9][0-9]{0,17}) (?:0|[1-9][0-9]{0,17}) (?:yes|no)\n)*\z`)

// readCalendarByPattern reads a calendar by a pattern.
func readCalendarByPattern(s string) (impl.Calendar, bool) {
	if !calendarPattern.MatchString(s) {
		return impl.Calendar{}, false
	}
	var c impl.Calendar
	for _, line := range strings.Split(strings.TrimSuffix(s, "\n"), "\n") {
		words := strings.Split(line, " ")
		switch words[0] {
		case "calendar":
			c.Name, c.Week = words[1], number(words[2])
		case "month":
			c.Months = append(c.Months, impl.Month{Name: words[1], Days: number(words[2]), Leap: number(words[3])})
		case "leap":
			c.Rules = append(c.Rules, impl.LeapRule{Every: number(words[1]), Rest: number(words[2]), Leap: words[3] == "yes"})
		}
	}
	if !isCalendar(c) {
		return impl.Calendar{}, false
	}
	return c, true
}

func checkCycle(t *testing.T, c impl.Calendar, wantYears, wantDays, wantCode int64) {
	t.Helper()
	if years, days, code := impl.CycleOf(c); years != wantYears || days != wantDays || code != wantCode {
		t.Errorf("CycleOf(%v): got %d years, %d days, code %d, want %d, %d, code %d", c, years, days, code, wantYears, wantDays, wantCode)
	}
}

func checkMeanYear(t *testing.T, c impl.Calendar, want impl.Ratio, wantCode int64) {
	t.Helper()
	if got, code := impl.MeanYear(c); got != want || code != wantCode {
		t.Errorf("MeanYear(%v): got %v, code %d, want %v, code %d", c, got, code, want, wantCode)
	}
}

func checkMonth(t *testing.T, c impl.Calendar, year, month, want, wantCode int64) {
	t.Helper()
	if got, code := impl.DaysInMonth(c, year, month); got != want || code != wantCode {
		t.Errorf("DaysInMonth(%v, %d, %d): got %d, code %d, want %d, code %d", c, year, month, got, code, want, wantCode)
	}
}

// checkYear checks whether a year is a leap year, its days, and those of some months.
func checkYear(t *testing.T, c impl.Calendar, year int64, some ...int64) {
	t.Helper()
	if got, want := impl.IsLeapYear(c, year), expectLeap(c, year); got != want {
		t.Errorf("IsLeapYear(%v, %d): got %t, want %t", c, year, got, want)
	}
	want, wantCode := expectYear(c, year)
	if got, code := impl.DaysInYear(c, year); got != want || code != wantCode {
		t.Errorf("DaysInYear(%v, %d): got %d, code %d, want %d, code %d", c, year, got, code, want, wantCode)
	}
	for _, month := range some {
		want, wantCode := expectMonth(c, year, month)
		checkMonth(t, c, year, month, want, wantCode)
	}
}

// checkCalendar checks everything that concerns a whole calendar.
func checkCalendar(t *testing.T, c impl.Calendar) {
	t.Helper()
	if got, want := impl.ValidCalendar(c), isCalendar(c); got != want {
		t.Errorf("ValidCalendar(%v): got %t, want %t", c, got, want)
	}
	years, days, code := expectCycle(c)
	checkCycle(t, c, years, days, code)
	mean, code := expectMeanYear(c)
	checkMeanYear(t, c, mean, code)
	want := expectCalendarText(c)
	got := impl.CalendarText(c)
	if got != want {
		t.Errorf("CalendarText(%v): got %q, want %q", c, got, want)
	}
	if read, ok := impl.ReadCalendar(got); ok != isCalendar(c) || ok && !equalCalendars(read, c) || !ok && !noCalendar(read) {
		t.Errorf("ReadCalendar(%q): got %v %t, want %v", got, read, ok, c)
	}
}

// checkReadCalendar compares ReadCalendar with a pattern, and returns whether there is a calendar with the text.
func checkReadCalendar(t *testing.T, s string) bool {
	t.Helper()
	want, is := readCalendarByPattern(s)
	got, ok := impl.ReadCalendar(s)
	if !equalCalendars(got, want) || ok != is {
		t.Errorf("ReadCalendar(%.300q): got %v %t, want %v %t", s, got, ok, want, is)
	}
	return ok
}

func notYears() []int64 {
	return append(farNumbers(), -1, -2, -4, -400, -2000, -9999, 10000, 10001, 10004, 20000)
}

// anyRules returns rules whose cycle has at most MaxCycle years.
func anyRules(source *rand.Rand) []impl.LeapRule {
	years := []int64{1, 2, 4, 12, 60, 360, 400, 840, 1000, 1024, 1680, 1998, 1999, 2000, 1 + source.Int63n(2000)}[source.Intn(15)]
	var divisors []int64
	for d := int64(1); d <= min(years, 1000); d++ {
		if years%d == 0 {
			divisors = append(divisors, d)
		}
	}
	var list []impl.LeapRule
	for range source.Intn(7) {
		every := divisors[source.Intn(len(divisors))]
		rest := []int64{0, every - 1, source.Int63n(every), source.Int63n(every)}[source.Intn(4)]
		list = append(list, impl.LeapRule{Every: every, Rest: rest, Leap: source.Intn(2) == 0})
	}
	return list
}

func anyMonths(count int, source *rand.Rand) []impl.Month {
	var list []impl.Month
	for i := range count {
		m := impl.Month{Name: fmt.Sprintf("m%d", i+1), Days: 1 + upTo(59, source)}
		m.Leap = []int64{m.Days, min(m.Days+1, 60), 1 + upTo(59, source)}[source.Intn(3)]
		list = append(list, m)
	}
	source.Shuffle(count, func(i, k int) { list[i], list[k] = list[k], list[i] })
	return list
}

// anyCalendar returns a valid one.
func anyCalendar(source *rand.Rand) impl.Calendar {
	count := []int{1, 2, 3, 12, 13, 20, 1 + source.Intn(20)}[source.Intn(7)]
	return impl.Calendar{Name: []string{"a", "own", "new-one2", "abcdefghijkl"}[source.Intn(4)], Months: anyMonths(count, source), Rules: anyRules(source), Week: 1 + upTo(11, source)}
}

// goodCalendars are valid ones, some of them at the limits.
func goodCalendars() []impl.Calendar {
	list := []impl.Calendar{
		fullCalendar(), ruled(""), ruled("4 0 yes"), ruled("1 0 yes"), ruled("1 0 no"), ruled("1000 999 yes"), ruled("1000 0 yes, 16 15 no"), ruled("125 124 yes, 16 0 no"), ruled("4 0 yes, 100 0 no, 400 0 yes"), ruled("400 0 yes, 100 0 no, 4 0 yes"), ruled("4 0 yes, 4 0 no"), ruled("4 0 no, 4 0 yes"),
		own("a 1", ""), own("a 60", "2 1 yes"), own("a 1 60", "2 1 yes"), own("a 60 1", "2 0 yes"), own("a 1 2, b 2 1", "3 2 yes"), own("a 29 30, b 30 29, c 5 6", "19 0 yes, 19 3 yes, 19 6 yes, 19 8 yes, 19 11 yes, 19 14 yes"),
		{Name: "a", Months: manyMonths(20), Week: 1}, {Name: "a", Months: manyMonths(1), Week: 12}, {Name: "month", Months: months("calendar 1, leap 2, month 3, yes 4, no 5, m1 6"), Rules: rules("7 6 yes"), Week: 5}, {Name: "a", Months: manyMonths(19), Rules: manyRules(6), Week: 11},
		{Name: "leap", Months: months("a 1 2"), Week: 7}, {Name: "a-", Months: months("a 1, a- 2, a-- 3, a9 4"), Rules: []impl.LeapRule{}, Week: 2},
	}
	for _, name := range givenNames() {
		list = append(list, given(name))
	}
	return list
}

// calendarChange changes one number of a calendar; the one it is made for has three months and three rules.
type calendarChange struct {
	name  string
	value func(*impl.Calendar) *int64
	good  []int64
	bad   []int64
}

func calendarChanges() []calendarChange {
	list := []calendarChange{{"Week", func(c *impl.Calendar) *int64 { return &c.Week }, []int64{1, 2, 7, 11, 12}, []int64{0, -1, -7, 13, 14, 100}}}
	for i := range 3 {
		list = append(list,
			calendarChange{"Days", func(c *impl.Calendar) *int64 { return &c.Months[i].Days }, []int64{1, 2, 30, 59, 60}, []int64{0, -1, -30, 61, 62, 365}},
			calendarChange{"Leap", func(c *impl.Calendar) *int64 { return &c.Months[i].Leap }, []int64{1, 2, 30, 59, 60}, []int64{0, -1, -30, 61, 62, 366}},
			// The other rules have an Every of 4 and of 20.
			calendarChange{"Every", func(c *impl.Calendar) *int64 { return &c.Rules[i].Every }, []int64{4, 5, 8, 20, 25, 99, 100, 400, 500, 600, 1000}, []int64{0, -1, -4, 1, 2, 3, 1001, 1002, 2000, 4000, 101, 999, 512}},
			calendarChange{"Rest", func(c *impl.Calendar) *int64 { return &c.Rules[i].Rest }, []int64{0, 1, 2, 3}, []int64{-1, -2, -4, 20, 21, 100}},
		)
	}
	return list
}

// threefold is the calendar for which calendarChanges are made.
func threefold() impl.Calendar { return own("a 30, b 28 29, c 31", "4 3 yes, 20 3 no, 20 3 yes") }

// badCalendars are not valid for one reason each, but for some with several ones.
func badCalendars() []impl.Calendar {
	list := []impl.Calendar{{}, {Name: "own", Week: 7}, {Name: "own", Months: []impl.Month{}, Week: 7}, own("", "4 0 yes"), {Months: months("a 30"), Week: 7}, {Name: "own", Months: months("a 30")}}
	for _, bad := range badNames() {
		c := ruled("4 0 yes")
		c.Name = bad
		list = append(list, c)
		for i := range 3 {
			c := threefold()
			c.Months[i].Name = bad
			list = append(list, c)
		}
	}
	for _, count := range []int{21, 22, 40, 1000} {
		list = append(list, impl.Calendar{Name: "own", Months: manyMonths(count), Week: 7})
	}
	// Two months with one name.
	for _, twice := range []string{"a 30, a 30", "a 30, a 31", "a 1, b 2, a 3", "a 1, b 2, b 3", "a 1, a 2, b 3", "a 1, b 2, c 3, d 4, a 1", "a 1, b 2, c 3, d 4, d 4"} {
		list = append(list, own(twice, ""))
	}
	twice := impl.Calendar{Name: "own", Months: manyMonths(20), Week: 7}
	twice.Months[19].Name = "m1"
	list = append(list, twice)
	for _, change := range calendarChanges() {
		for _, bad := range append(change.bad, farNumbers()...) {
			c := threefold()
			*change.value(&c) = bad
			list = append(list, c)
		}
	}
	for _, count := range []int{7, 8, 60, 1000} {
		list = append(list, impl.Calendar{Name: "own", Months: months("a 30"), Rules: slices.Repeat(rules("4 0 yes"), count), Week: 7})
	}
	for _, text := range []string{
		// Rest is Every, one more, and -1.
		"1 1 yes", "1 -1 yes", "1 2 yes", "2 2 no", "2 3 no", "4 4 yes", "4 5 yes", "4 -1 yes", "1000 1000 yes", "1000 1001 yes", "1000 -1 yes", "1 0 yes, 1 1 yes", "4 0 yes, 100 100 no", "100 4 no, 4 4 yes", "1001 0 yes", "1001 1000 yes", "0 0 yes", "0 -1 yes", "-1 0 yes", "-4 -5 yes", "-4 0 yes",
		// Cycles just beyond MaxCycle, and beyond it by far.
		"3 0 yes, 667 0 yes", "667 0 yes, 3 0 yes", "23 0 yes, 87 0 no", "87 1 yes, 69 2 no", "2 0 yes, 3 0 yes, 23 0 yes, 29 0 yes", "91 0 yes, 22 0 yes", "2 0 yes, 7 0 yes, 11 0 yes, 13 0 yes", "1000 0 yes, 3 0 yes", "3 0 yes, 1000 0 yes", "1000 0 yes, 999 0 yes", "999 0 yes, 998 0 yes", "500 0 yes, 16 0 yes, 3 0 yes", "16 0 yes, 125 0 yes, 9 0 yes", "16 0 yes, 125 0 yes, 32 0 yes", "45 0 yes, 46 0 yes", "51 0 yes, 40 0 yes",
		"997 0 yes, 991 0 yes, 983 0 yes", "997 0 yes, 991 0 yes, 983 0 yes, 977 0 yes", "997 0 yes, 991 0 yes, 983 0 yes, 977 0 yes, 971 0 yes", "997 0 yes, 991 0 yes, 983 0 yes, 977 0 yes, 971 0 yes, 967 0 yes", "1000 0 yes, 999 0 yes, 997 0 yes, 991 0 yes, 989 0 yes, 983 0 yes",
	} {
		list = append(list, ruled(text))
	}
	return append(list, beyondInt64()...)
}

// beyondInt64 are calendars in which the least common multiple of all Every does not fit into 63 bits. These have too many rules or one that is not valid, as six numbers up to 1000 have a product of at most 10^18.
func beyondInt64() []impl.Calendar {
	list := []impl.Calendar{
		ruled("997 0 yes, 991 0 yes, 983 0 yes, 977 0 yes, 971 0 yes, 967 0 yes, 953 0 yes"), ruled("997 0 yes, 991 0 yes, 983 0 yes, 977 0 yes, 971 0 yes, 967 0 yes, 953 0 yes, 947 0 yes, 941 0 yes"),
		ruled("4611686018427387904 0 yes, 3 0 yes"), ruled("4294967296 0 yes, 4294967295 0 yes"), ruled("9223372036854775807 0 yes, 9223372036854775806 0 yes"), ruled("1000 0 yes, 9223372036854775807 0 yes"), ruled("9223372036854775807 9223372036854775806 yes, 1000 0 yes"), ruled("-9223372036854775808 0 yes, -1 0 yes"), ruled("-1 0 yes, -9223372036854775808 0 yes"), ruled("-1 -1 yes"), ruled("4294967296 0 yes, 2147483649 0 yes, 3 0 yes"), ruled("4294967296 0 yes, 12884901888 0 yes"),
		// Numbers whose product is a small one, or none, if it is taken modulo 2^64.
		ruled("2305843009213693952 0 yes, 4 0 yes"), ruled("2305843009213693952 0 yes, 3 0 yes, 5 0 yes, 7 0 yes"), ruled("1000 0 yes, 27 0 yes, 343 0 yes, 121 0 yes, 169 0 yes, 289 0 yes, 361 0 yes, 529 0 yes"),
	}
	return list
}

func TestPromise15Limits(t *testing.T) {
	if impl.MaxMonths != 20 || impl.MaxDays != 60 || impl.MaxRules != 6 || impl.MaxEvery != 1000 || impl.MaxCycle != 2000 || impl.MaxWeek != 12 || impl.MaxYear != 9999 {
		t.Error("a limit is not that of the specification")
	}
}

func TestPromise15ValidCalendar(t *testing.T) {
	for i, c := range goodCalendars() {
		if !impl.ValidCalendar(c) || !isCalendar(c) {
			t.Errorf("good calendar %d, %v: got false, want true", i, c)
		}
		checkCalendar(t, c)
	}
	for i, c := range badCalendars() {
		if impl.ValidCalendar(c) || isCalendar(c) {
			t.Errorf("bad calendar %d, %v: got true, want false", i, c)
		}
		checkCalendar(t, c)
	}
	for _, count := range []int{0, 1, 2, 19, 20, 21} {
		c := impl.Calendar{Name: "own", Months: manyMonths(count), Week: 7}
		if got := impl.ValidCalendar(c); got != (count >= 1 && count <= 20) {
			t.Errorf("ValidCalendar with %d months: got %t", count, got)
		}
	}
	for _, count := range []int{0, 1, 5, 6, 7} {
		c := impl.Calendar{Name: "own", Months: months("a 30"), Rules: manyRules(count), Week: 7}
		if got := impl.ValidCalendar(c); got != (count <= 6) {
			t.Errorf("ValidCalendar with %d rules: got %t", count, got)
		}
	}
}

func TestPromise15NumbersOfCalendars(t *testing.T) {
	for _, change := range calendarChanges() {
		for _, good := range change.good {
			c := threefold()
			*change.value(&c) = good
			if !impl.ValidCalendar(c) {
				t.Errorf("ValidCalendar with %s %d, %v: got false, want true", change.name, good, c)
			}
			checkCalendar(t, c)
		}
		for _, bad := range append(change.bad, farNumbers()...) {
			c := threefold()
			*change.value(&c) = bad
			if impl.ValidCalendar(c) {
				t.Errorf("ValidCalendar with %s %d, %v: got true, want false", change.name, bad, c)
			}
		}
	}
	for every := int64(-1); every <= 1002; every++ {
		for _, rest := range []int64{-1, 0, every / 2, every - 1, every, every + 1} {
			c := ruled("")
			c.Rules = []impl.LeapRule{{Every: every, Rest: rest, Leap: true}}
			want := every >= 1 && every <= 1000 && rest >= 0 && rest < every
			if got := impl.ValidCalendar(c); got != want {
				t.Errorf("ValidCalendar with Every %d and Rest %d: got %t, want %t", every, rest, got, want)
			}
		}
	}
}

func TestPromise15NamesOfMonthsAreDifferent(t *testing.T) {
	for i := range 20 {
		for k := range 20 {
			c := impl.Calendar{Name: "own", Months: manyMonths(20), Week: 7}
			c.Months[i].Name = c.Months[k].Name
			if got := impl.ValidCalendar(c); got != (i == k) {
				t.Errorf("ValidCalendar with the name of month %d for month %d: got %t", k, i, got)
			}
		}
		for _, bad := range badNames() {
			c := impl.Calendar{Name: "own", Months: manyMonths(20), Week: 7}
			c.Months[i].Name = bad
			if impl.ValidCalendar(c) {
				t.Errorf("ValidCalendar with the name %.20q for month %d: got true", bad, i)
			}
		}
		c := impl.Calendar{Name: "own", Months: manyMonths(20), Week: 7}
		// A month may have the name of the calendar.
		c.Months[i].Name = "own"
		checkCalendar(t, c)
		if !impl.ValidCalendar(c) {
			t.Errorf("ValidCalendar with the name of the calendar for month %d: got false", i)
		}
	}
}

func TestPromise15CyclesUpToTheLongest(t *testing.T) {
	for _, c := range []struct {
		rules string
		years int64
	}{
		{"", 1}, {"1 0 yes", 1}, {"1 0 yes, 1 0 no, 1 0 yes, 1 0 no, 1 0 yes, 1 0 no", 1}, {"2 1 yes", 2}, {"2 0 yes, 2 1 yes", 2}, {"4 0 yes, 6 0 no", 12}, {"6 0 yes, 4 0 no", 12}, {"4 0 yes, 100 0 no, 400 0 yes", 400}, {"1000 0 yes", 1000}, {"999 0 yes", 999}, {"1000 0 yes, 500 0 yes, 250 0 yes, 125 0 yes, 8 0 yes, 1 0 yes", 1000},
		// Exactly MaxCycle, and just below it.
		{"1000 0 yes, 16 0 yes", 2000}, {"16 0 yes, 1000 0 yes", 2000}, {"16 0 yes, 125 0 yes", 2000}, {"400 0 yes, 250 0 yes, 16 0 yes", 2000}, {"1000 999 yes, 80 79 no", 2000}, {"1000 0 yes, 400 0 yes, 16 0 yes, 80 0 yes, 125 0 yes, 2 0 yes", 2000}, {"999 0 yes, 2 0 yes", 1998}, {"37 0 yes, 54 0 yes", 1998}, {"664 0 yes, 3 0 yes", 1992}, {"998 0 yes, 4 0 yes", 1996}, {"5 0 yes, 7 0 yes, 57 0 yes", 1995}, {"1 0 yes, 2 0 yes, 3 0 yes, 4 0 yes, 5 0 yes, 6 0 yes", 60}, {"64 0 yes, 31 0 yes", 1984},
	} {
		checkCycle(t, ruled(c.rules), c.years, expectDaysOf(ruled(c.rules), c.years), impl.OK)
	}
	// Pairs of Every whose cycle may be too long.
	for a := int64(1); a <= 1000; a += 1 + a/60 {
		for b := int64(1); b <= 1000; b += 1 + b/60 {
			c := ruled("")
			c.Rules = []impl.LeapRule{{Every: a, Rest: a - 1, Leap: true}, {Every: b}}
			if got := impl.ValidCalendar(c); got != isCalendar(c) {
				t.Errorf("ValidCalendar with Every %d and %d: got %t", a, b, got)
			}
		}
	}
	source := rand.New(rand.NewSource(151))
	count := map[bool]int{}
	for range 20000 {
		c := ruled("")
		for range 1 + source.Intn(6) {
			every := []int64{1 + source.Int63n(12), 1 + source.Int63n(60), 1 + source.Int63n(1000), 1 + source.Int63n(1002)}[source.Intn(4)]
			c.Rules = append(c.Rules, impl.LeapRule{Every: every, Rest: source.Int63n(every), Leap: true})
		}
		want := isCalendar(c)
		if got := impl.ValidCalendar(c); got != want {
			t.Errorf("ValidCalendar(%v): got %t, want %t", c, got, want)
		}
		count[want]++
	}
	if count[true] < 2000 || count[false] < 2000 {
		t.Errorf("the calendars are not of both kinds: %v", count)
	}
}

// expectDaysOf returns the days of the first years of a valid calendar.
func expectDaysOf(c impl.Calendar, years int64) int64 {
	days := int64(0)
	for year := range years {
		days += sumOf(lengthsIn(c, year))
	}
	return days
}

// calendarVariants are calendars that differ from c in one thing each.
func calendarVariants(c impl.Calendar) []impl.Calendar {
	var list []impl.Calendar
	add := func(change func(*impl.Calendar)) {
		other := copyOfCalendar(c)
		change(&other)
		list = append(list, other)
	}
	add(func(o *impl.Calendar) { o.Name += "x" })
	add(func(o *impl.Calendar) { o.Week++ })
	add(func(o *impl.Calendar) { o.Week = -o.Week - 1 })
	add(func(o *impl.Calendar) { o.Months = append(o.Months, impl.Month{}) })
	add(func(o *impl.Calendar) { o.Rules = append(o.Rules, impl.LeapRule{}) })
	for i := range c.Months {
		add(func(o *impl.Calendar) { o.Months[i].Name += "x" })
		add(func(o *impl.Calendar) { o.Months[i].Days++ })
		add(func(o *impl.Calendar) { o.Months[i].Leap++ })
		add(func(o *impl.Calendar) { o.Months = o.Months[:i] })
		add(func(o *impl.Calendar) { o.Months = o.Months[i+1:] })
		if i > 0 && c.Months[i] != c.Months[i-1] {
			add(func(o *impl.Calendar) { o.Months[i], o.Months[i-1] = o.Months[i-1], o.Months[i] })
		}
	}
	for i := range c.Rules {
		add(func(o *impl.Calendar) { o.Rules[i].Every++ })
		add(func(o *impl.Calendar) { o.Rules[i].Rest++ })
		add(func(o *impl.Calendar) { o.Rules[i].Leap = !o.Rules[i].Leap })
		add(func(o *impl.Calendar) { o.Rules = o.Rules[:i] })
		add(func(o *impl.Calendar) { o.Rules = o.Rules[i+1:] })
		if i > 0 && c.Rules[i] != c.Rules[i-1] {
			add(func(o *impl.Calendar) { o.Rules[i], o.Rules[i-1] = o.Rules[i-1], o.Rules[i] })
		}
	}
	return list
}

func TestPromise15SameCalendar(t *testing.T) {
	list := append(goodCalendars(), badCalendars()...)
	for _, c := range list {
		if len(c.Months) > 40 || len(c.Rules) > 40 {
			continue
		}
		if !impl.SameCalendar(c, c) || !impl.SameCalendar(c, copyOfCalendar(c)) || !impl.SameCalendar(copyOfCalendar(c), c) {
			t.Errorf("SameCalendar(%v, %v): got false, want true", c, c)
		}
		for _, other := range calendarVariants(c) {
			if impl.SameCalendar(c, other) || impl.SameCalendar(other, c) {
				t.Errorf("SameCalendar(%v, %v): got true, want false", c, other)
			}
			if !impl.SameCalendar(other, copyOfCalendar(other)) {
				t.Errorf("SameCalendar(%v, %v): got false, want true", other, other)
			}
		}
	}
	for _, a := range list[:150] {
		for _, b := range list[:150] {
			if got, want := impl.SameCalendar(a, b), equalCalendars(a, b); got != want {
				t.Errorf("SameCalendar(%v, %v): got %t, want %t", a, b, got, want)
			}
		}
	}
	// Lists that are nil and lists that are empty.
	for _, both := range [][2]impl.Calendar{
		{{}, {Months: []impl.Month{}, Rules: []impl.LeapRule{}}}, {{Months: []impl.Month{}}, {Rules: []impl.LeapRule{}}}, {ruled(""), {Name: "own", Months: months("a 30 31"), Rules: []impl.LeapRule{}, Week: 7}}, {ruled(""), {Name: "own", Months: months("a 30 31"), Rules: make([]impl.LeapRule, 0, 5), Week: 7}},
	} {
		if !impl.SameCalendar(both[0], both[1]) || !impl.SameCalendar(both[1], both[0]) {
			t.Errorf("SameCalendar(%#v, %#v): got false, want true", both[0], both[1])
		}
	}
}

// givenTexts are the texts of the given calendars.
func givenTexts() map[string]string {
	numbered := func(days int) string {
		text := ""
		for i := range 12 {
			text += fmt.Sprintf("month m%d %d %d\n", i+1, days, days)
		}
		return text
	}
	year := "month jan 31 31\nmonth feb 28 29\nmonth mar 31 31\nmonth apr 30 30\nmonth may 31 31\nmonth jun 30 30\nmonth jul 31 31\nmonth aug 31 31\nmonth sep 30 30\nmonth oct 31 31\nmonth nov 30 30\nmonth dec 31 31\n"
	return map[string]string{
		"egyptian":  "calendar egyptian 10\n" + numbered(30) + "month m13 5 5\n",
		"fixed":     "calendar fixed 7\n" + numbered(28) + "month m13 29 30\nleap 4 0 yes\nleap 100 0 no\nleap 400 0 yes\n",
		"gregorian": "calendar gregorian 7\n" + year + "leap 4 0 yes\nleap 100 0 no\nleap 400 0 yes\n",
		"julian":    "calendar julian 7\n" + year + "leap 4 0 yes\n",
	}
}

func TestPromise15GivenCalendars(t *testing.T) {
	if got := impl.CalendarNames(); !slices.Equal(got, givenNames()) {
		t.Errorf("CalendarNames: got %q", got)
	}
	for name, text := range givenTexts() {
		c, code := impl.CalendarNamed(name)
		if c.Name != name || code != impl.OK || !impl.ValidCalendar(c) || !isCalendar(c) {
			t.Errorf("CalendarNamed(%q): got %v, code %d", name, c, code)
		}
		if expectCalendarText(c) != text || impl.CalendarText(c) != text {
			t.Errorf("CalendarNamed(%q): got %q, want %q", name, impl.CalendarText(c), text)
		}
		if read, ok := impl.ReadCalendar(text); !ok || !equalCalendars(read, c) || !impl.SameCalendar(read, c) {
			t.Errorf("ReadCalendar(%q): got %v %t, want %v", text, read, ok, c)
		}
	}
	for _, c := range []struct {
		name        string
		years, days int64
		mean        impl.Ratio
	}{
		{"egyptian", 1, 365, over(365, 1)}, {"fixed", 400, 146097, over(146097, 400)}, {"gregorian", 400, 146097, over(146097, 400)}, {"julian", 4, 1461, over(1461, 4)},
	} {
		checkCycle(t, given(c.name), c.years, c.days, impl.OK)
		checkMeanYear(t, given(c.name), c.mean, impl.OK)
	}
}

func TestPromise15NamesOfNoGivenCalendar(t *testing.T) {
	names := []string{"", " ", "-", "roman", "own", "egypt", "egyptia", "egyptianx", "gyptian", "gregorian7", "gregoria", "regorian", "julia", "ulian", "julian ", " julian", "fix", "fixe", "ixed", "fixed\n", "fixed\x00", "Egyptian", "EGYPTIAN", "Fixed", "Gregorian", "gregoriaN", "JULIAN", "Julian", "e", "f", "g", "j", "julian julian", "egyptian fixed gregorian julian", "gregorian,julian", "ok", "0", strings.Repeat("julian", 10000)}
	for _, name := range append(names, badNames()...) {
		if c, code := impl.CalendarNamed(name); !noCalendar(c) || code != impl.ErrNotFound {
			t.Errorf("CalendarNamed(%.50q): got %v, code %d, want none", name, c, code)
		}
	}
	for _, name := range givenNames() {
		for i := range len(name) {
			for _, part := range []string{name[:i], name[i+1:], name[:i] + name[i+1:], name[:i] + "x" + name[i:], name[:i] + strings.ToUpper(name[i:i+1]) + name[i+1:]} {
				if c, code := impl.CalendarNamed(part); !noCalendar(c) || code != impl.ErrNotFound {
					t.Errorf("CalendarNamed(%q): got %v, code %d, want none", part, c, code)
				}
			}
		}
	}
}

func TestPromise1GivenCalendarsAreNew(t *testing.T) {
	names := impl.CalendarNames()
	names = names[:cap(names)]
	for i := range names {
		names[i] = "changed"
	}
	if got := impl.CalendarNames(); !slices.Equal(got, givenNames()) {
		t.Errorf("CalendarNames after a change of its result: got %q", got)
	}
	for _, name := range givenNames() {
		first, second := given(name), given(name)
		spoil(first)
		if text := givenTexts()[name]; impl.CalendarText(second) != text || impl.CalendarText(given(name)) != text {
			t.Errorf("CalendarNamed(%q) after a change of its result: got %q", name, impl.CalendarText(given(name)))
		}
	}
	// The months of two calendars are not the same memory, and neither are their rules.
	for _, name := range givenNames() {
		spoil(given(name))
		for _, other := range givenNames() {
			if got := impl.CalendarText(given(other)); got != givenTexts()[other] {
				t.Errorf("CalendarNamed(%q) after a change of %q: got %q", other, name, got)
			}
		}
	}
}

// spoil changes everything in the slices of a calendar, also behind their ends.
func spoil(c impl.Calendar) {
	for i := range c.Months[:cap(c.Months)] {
		c.Months[:cap(c.Months)][i] = impl.Month{Name: "changed", Days: 1000, Leap: 1000}
	}
	for i := range c.Rules[:cap(c.Rules)] {
		c.Rules[:cap(c.Rules)][i] = impl.LeapRule{Every: 1, Rest: 1000, Leap: true}
	}
}

func TestPromise15TheLastRuleThatAppliesDecides(t *testing.T) {
	for _, c := range []struct {
		rules string
		leap  []int64
		other []int64
	}{
		{"", nil, []int64{0, 1, 4, 400, 9999}},
		{"1 0 yes", []int64{0, 1, 2, 3, 9998, 9999}, nil},
		{"1 0 no", nil, []int64{0, 1, 2, 9999}},
		{"4 0 yes", []int64{0, 4, 100, 1900, 9996}, []int64{1, 2, 3, 5, 9995, 9997, 9999}},
		{"4 3 yes", []int64{3, 7, 1903, 9999}, []int64{0, 1, 2, 4, 6, 8, 9998}},
		{"4 0 yes, 100 0 no, 400 0 yes", []int64{0, 4, 96, 104, 400, 1600, 1996, 2000, 9600, 9996}, []int64{1, 100, 200, 300, 500, 1900, 2100, 9900, 9999}},
		// The same rules in other orders.
		{"400 0 yes, 100 0 no, 4 0 yes", []int64{0, 4, 100, 200, 300, 400, 1900}, []int64{1, 2, 9999}},
		{"4 0 yes, 400 0 yes, 100 0 no", []int64{4, 96, 104, 9996}, []int64{0, 100, 200, 400, 2000}},
		{"100 0 no, 4 0 yes, 400 0 yes", []int64{0, 4, 100, 400, 1900}, []int64{1, 3, 9998}},
		{"100 0 no, 400 0 yes, 4 0 yes", []int64{0, 4, 100, 400, 1900}, []int64{1, 3, 9998}},
		{"400 0 yes, 4 0 yes, 100 0 no", []int64{4, 96, 9996}, []int64{0, 100, 400, 2000}},
		// Equal rules with different Leap.
		{"4 0 yes, 4 0 no", nil, []int64{0, 4, 8, 1, 9996}},
		{"4 0 no, 4 0 yes", []int64{0, 4, 8, 9996}, []int64{1, 2, 3}},
		{"4 0 yes, 4 0 no, 4 0 yes", []int64{0, 4, 8, 9996}, []int64{1, 2, 3}},
		{"4 0 no, 4 0 yes, 4 0 no", nil, []int64{0, 1, 4, 8}},
		// All of several rules apply, and the last one is true or false.
		{"1 0 no, 2 0 no, 4 0 no, 8 0 no, 16 0 no, 32 0 yes", []int64{0, 32, 64, 9984}, []int64{1, 2, 4, 8, 16, 48}},
		{"1 0 yes, 2 0 yes, 4 0 yes, 8 0 yes, 16 0 yes, 32 0 no", []int64{1, 2, 4, 8, 16, 48}, []int64{0, 32, 64, 9984}},
		{"32 0 no, 16 0 yes, 8 0 no, 4 0 yes, 2 0 no, 1 0 yes", []int64{0, 1, 2, 4, 8, 16, 32, 9999}, nil},
		{"32 0 yes, 16 0 yes, 8 0 yes, 4 0 yes, 2 0 yes, 1 0 no", nil, []int64{0, 1, 2, 4, 8, 16, 32, 9999}},
		// Rules of which the last one does not apply.
		{"4 0 yes, 1000 999 no", []int64{0, 4, 8}, []int64{999, 1999, 9999, 1}},
		{"4 3 yes, 1000 999 no", []int64{3, 7, 995}, []int64{999, 1999, 9999, 0}},
		{"1000 999 yes, 4 3 no", nil, []int64{999, 1999, 3}},
		{"1000 999 yes, 16 15 no", []int64{999, 2999, 4999, 6999, 8999}, []int64{15, 1999, 3999, 5999, 7999, 9999}},
		{"3 1 yes, 5 2 no", []int64{1, 4, 10, 13}, []int64{7, 22, 2, 0}},
		{"3 1 no, 5 2 yes", []int64{2, 7, 12, 22}, []int64{1, 4, 0}},
	} {
		for _, year := range c.leap {
			if !impl.IsLeapYear(ruled(c.rules), year) {
				t.Errorf("IsLeapYear of %d with the rules %s: got false, want true", year, c.rules)
			}
			checkMonth(t, ruled(c.rules), year, 1, 31, impl.OK)
		}
		for _, year := range c.other {
			if impl.IsLeapYear(ruled(c.rules), year) {
				t.Errorf("IsLeapYear of %d with the rules %s: got true, want false", year, c.rules)
			}
			checkMonth(t, ruled(c.rules), year, 1, 30, impl.OK)
		}
		for _, year := range notYears() {
			if impl.IsLeapYear(ruled(c.rules), year) {
				t.Errorf("IsLeapYear of %d with the rules %s: got true, want false", year, c.rules)
			}
		}
	}
	for _, bad := range badCalendars() {
		for _, year := range []int64{0, 1, 3, 4, 400, 2000, 9999, -1, 10000} {
			if impl.IsLeapYear(bad, year) {
				t.Errorf("IsLeapYear(%v, %d): got true, want false", bad, year)
			}
		}
	}
}

func TestPromise15YearsAreThoseOfTheRules(t *testing.T) {
	gregorian, julian := given("gregorian"), given("julian")
	for year := range int64(10000) {
		last := time.Date(int(year), 12, 31, 0, 0, 0, 0, time.UTC)
		if got := impl.IsLeapYear(gregorian, year); got != (last.YearDay() == 366) {
			t.Errorf("IsLeapYear(gregorian, %d): got %t", year, got)
		}
		if got := impl.IsLeapYear(julian, year); got != (year%4 == 0) {
			t.Errorf("IsLeapYear(julian, %d): got %t", year, got)
		}
		for month := time.January; month <= time.December; month++ {
			days := time.Date(int(year), month+1, 0, 0, 0, 0, 0, time.UTC).Day()
			checkMonth(t, gregorian, year, int64(month), int64(days), impl.OK)
		}
		if days, code := impl.DaysInYear(gregorian, year); days != int64(last.YearDay()) || code != impl.OK {
			t.Errorf("DaysInYear(gregorian, %d): got %d, code %d", year, days, code)
		}
	}
	source := rand.New(rand.NewSource(152))
	for _, c := range append(goodCalendars(), badCalendars()...) {
		some := []int64{-1, 0, 1, int64(len(c.Months)) - 1, int64(len(c.Months)), int64(len(c.Months)) + 1}
		for _, year := range append(notYears(), 0, 1, 2, 3, 4, 99, 100, 400, 999, 1000, 1999, 2000, 9998, 9999, source.Int63n(10000)) {
			checkYear(t, c, year, append(some, farNumbers()...)...)
		}
	}
	for range 1500 {
		c := anyCalendar(source)
		checkCalendar(t, c)
		for range 25 {
			checkYear(t, c, source.Int63n(10000), 1+source.Int63n(int64(len(c.Months))), source.Int63n(24)-1)
		}
	}
}

func TestPromise15DaysInMonth(t *testing.T) {
	gregorian, fixed, egyptian := given("gregorian"), given("fixed"), given("egyptian")
	for _, c := range []struct {
		calendar               impl.Calendar
		year, month, days, all int64
	}{
		{gregorian, 2023, 2, 28, 365}, {gregorian, 2024, 2, 29, 366}, {gregorian, 1900, 2, 28, 365}, {gregorian, 2000, 2, 29, 366}, {gregorian, 0, 2, 29, 366}, {gregorian, 9999, 2, 28, 365}, {gregorian, 2024, 1, 31, 366}, {gregorian, 2024, 12, 31, 366}, {gregorian, 2023, 4, 30, 365}, {gregorian, 9999, 12, 31, 365}, {gregorian, 0, 1, 31, 366},
		{fixed, 2023, 13, 29, 365}, {fixed, 2024, 13, 30, 366}, {fixed, 1900, 13, 29, 365}, {fixed, 2024, 1, 28, 366}, {fixed, 0, 13, 30, 366},
		{egyptian, 0, 13, 5, 365}, {egyptian, 2000, 13, 5, 365}, {egyptian, 2000, 12, 30, 365}, {given("julian"), 1900, 2, 29, 366}, {given("julian"), 1901, 2, 28, 365},
		{own("a 60 1", "2 1 yes"), 1, 1, 1, 1}, {own("a 60 1", "2 1 yes"), 0, 1, 60, 60}, {own("a 1 2, b 3 5, c 7 11", "3 2 yes"), 5, 1, 2, 18}, {own("a 1 2, b 3 5, c 7 11", "3 2 yes"), 5, 2, 5, 18}, {own("a 1 2, b 3 5, c 7 11", "3 2 yes"), 5, 3, 11, 18}, {own("a 1 2, b 3 5, c 7 11", "3 2 yes"), 4, 3, 7, 11},
		{fullCalendar(), 999, 1, 41, 1010}, {fullCalendar(), 998, 1, 60, 1010}, {fullCalendar(), 999, 20, 60, 1010}, {fullCalendar(), 998, 20, 41, 1010},
	} {
		checkMonth(t, c.calendar, c.year, c.month, c.days, impl.OK)
		if days, code := impl.DaysInYear(c.calendar, c.year); days != c.all || code != impl.OK {
			t.Errorf("DaysInYear(%v, %d): got %d, code %d, want %d", c.calendar, c.year, days, code, c.all)
		}
	}
	for _, year := range notYears() {
		for _, month := range append(farNumbers(), -1, 0, 1, 2, 12, 13) {
			checkMonth(t, gregorian, year, month, 0, impl.ErrRange)
		}
		if days, code := impl.DaysInYear(gregorian, year); days != 0 || code != impl.ErrRange {
			t.Errorf("DaysInYear(gregorian, %d): got %d, code %d", year, days, code)
		}
	}
	for _, month := range append(farNumbers(), -1, -12, 0, 13, 14, 20, 21) {
		for _, year := range []int64{0, 1, 2023, 2024, 9999} {
			checkMonth(t, gregorian, year, month, 0, impl.ErrRange)
		}
	}
	checkMonth(t, egyptian, 5, 13, 5, impl.OK)
	checkMonth(t, egyptian, 5, 14, 0, impl.ErrRange)
	checkMonth(t, ruled(""), 5, 2, 0, impl.ErrRange)
	checkMonth(t, fullCalendar(), 5, 21, 0, impl.ErrRange)
}

func TestPromise15CycleOf(t *testing.T) {
	for _, c := range []struct {
		calendar    impl.Calendar
		years, days int64
		mean        impl.Ratio
	}{
		{ruled(""), 1, 30, over(30, 1)}, {ruled("1 0 yes"), 1, 31, over(31, 1)}, {ruled("1 0 no"), 1, 30, over(30, 1)}, {ruled("4 0 yes"), 4, 121, over(121, 4)}, {ruled("4 3 yes"), 4, 121, over(121, 4)}, {ruled("2 0 yes, 2 1 yes"), 2, 62, over(31, 1)}, {ruled("2 0 yes, 2 0 no"), 2, 60, over(30, 1)}, {ruled("4 0 yes, 4 2 yes"), 4, 122, over(61, 2)},
		{ruled("1000 999 yes"), 1000, 30001, over(30001, 1000)}, {ruled("1000 999 yes, 16 15 no"), 2000, 60001, over(60001, 2000)}, {ruled("16 15 yes, 125 124 yes"), 2000, 60140, over(3007, 100)}, {own("a 1", ""), 1, 1, over(1, 1)}, {own("a 1 60", "2 1 yes"), 2, 61, over(61, 2)}, {own("a 60 1", "2 1 yes"), 2, 61, over(61, 2)}, {own("a 1 3", "2 1 yes"), 2, 4, over(2, 1)}, {own("a 2 1, b 1 2", "7 3 yes"), 7, 21, over(3, 1)},
		{own("a 29 30, b 30 29, c 5 6", "19 0 yes, 19 3 yes, 19 6 yes, 19 8 yes, 19 11 yes, 19 14 yes"), 19, 1222, over(1222, 19)},
		// The greatest and the least numbers of days.
		{impl.Calendar{Name: "own", Months: sixties(20), Rules: rules("16 0 yes, 1000 0 no"), Week: 1}, 2000, 2400000, over(1200, 1)}, {own("a 1", "16 0 yes, 1000 0 no"), 2000, 2000, over(1, 1)}, {fullCalendar(), 2000, 2020000, over(1010, 1)},
	} {
		checkCycle(t, c.calendar, c.years, c.days, impl.OK)
		checkMeanYear(t, c.calendar, c.mean, impl.OK)
		checkCalendar(t, c.calendar)
	}
	for _, bad := range badCalendars() {
		checkCycle(t, bad, 0, 0, impl.ErrInvalid)
		checkMeanYear(t, bad, impl.Ratio{}, impl.ErrInvalid)
	}
}

// sixties returns months of MaxDays days.
func sixties(count int) []impl.Month {
	list := manyMonths(count)
	for i := range list {
		list[i].Days, list[i].Leap = 60, 60
	}
	return list
}

func TestPromise15CalendarsRepeatInCycles(t *testing.T) {
	source := rand.New(rand.NewSource(153))
	list := goodCalendars()
	for range 150 {
		list = append(list, anyCalendar(source))
	}
	for _, c := range list {
		years, days, code := impl.CycleOf(c)
		if code != impl.OK || years < 1 || years > 2000 {
			t.Fatalf("CycleOf(%v): got %d years, %d days, code %d", c, years, days, code)
		}
		for _, r := range c.Rules {
			if years%r.Every != 0 {
				t.Errorf("the cycle of %v has %d years", c, years)
			}
		}
		// Every row of as many years has these days, wherever it begins.
		sum := int64(0)
		for year := range int64(10000) {
			inYear, _ := impl.DaysInYear(c, year)
			sum += inYear
			if year >= years {
				before, _ := impl.DaysInYear(c, year-years)
				if impl.IsLeapYear(c, year) != impl.IsLeapYear(c, year-years) || before != inYear {
					t.Errorf("year %d of %v is not like that %d years before", year, c, years)
				}
				sum -= before
			}
			if year >= years-1 && sum != days {
				t.Errorf("the %d years up to %d of %v have %d days, want %d", years, year, c, sum, days)
			}
		}
		month := 1 + source.Int63n(int64(len(c.Months)))
		for range 100 {
			year := source.Int63n(10000)
			a, _ := impl.DaysInMonth(c, year, month)
			b, _ := impl.DaysInMonth(c, year%years, month)
			if a != b || a == 0 {
				t.Errorf("month %d of %v has %d days in the year %d, and %d in %d", month, c, a, year, b, year%years)
			}
		}
		mean, _ := impl.MeanYear(c)
		if !impl.ValidRatio(mean) || mean.Num*years != days*mean.Den {
			t.Errorf("MeanYear(%v): got %v for %d days in %d years", c, mean, days, years)
		}
	}
}

func TestPromise15CalendarText(t *testing.T) {
	for _, c := range []struct {
		calendar impl.Calendar
		want     string
	}{
		{ruled("4 0 yes"), "calendar own 7\nmonth a 30 31\nleap 4 0 yes\n"}, {ruled("4 3 no, 1000 999 yes"), "calendar own 7\nmonth a 30 31\nleap 4 3 no\nleap 1000 999 yes\n"}, {own("a 1, b 60 59", ""), "calendar own 7\nmonth a 1 1\nmonth b 60 59\n"}, {own("b 1 2, a 3 4", "2 1 no, 1 0 yes"), "calendar own 7\nmonth b 1 2\nmonth a 3 4\nleap 2 1 no\nleap 1 0 yes\n"}, {impl.Calendar{Name: "calendar", Months: months("month 1, leap 2"), Week: 12}, "calendar calendar 12\nmonth month 1 1\nmonth leap 2 2\n"},
	} {
		if got := impl.CalendarText(c.calendar); got != c.want {
			t.Errorf("CalendarText(%v): got %q, want %q", c.calendar, got, c.want)
		}
		if got, ok := impl.ReadCalendar(c.want); !ok || !equalCalendars(got, c.calendar) {
			t.Errorf("ReadCalendar(%q): got %v %t, want %v", c.want, got, ok, c.calendar)
		}
	}
	for _, bad := range badCalendars() {
		if got := impl.CalendarText(bad); got != "" {
			t.Errorf("CalendarText(%v): got %.100q, want the empty string", bad, got)
		}
	}
	source := rand.New(rand.NewSource(154))
	texts := map[string]impl.Calendar{}
	for range 3000 {
		c := anyCalendar(source)
		text := impl.CalendarText(c)
		if other, is := texts[text]; is && !equalCalendars(c, other) {
			t.Errorf("%v and %v have the text %q", c, other, text)
		}
		texts[text] = c
		checkReadCalendar(t, text)
		checkCalendar(t, c)
	}
}

// textsOfNoCalendars are texts for which there is no valid calendar.
func textsOfNoCalendars() []string {
	list := []string{
		"", "\n", " ", "\n\n", "-", "a", "own", "calendar", "calendar\n", "calendar own\n", "calendar own 7", "calendar own 7\n", "month a 30 31\n", "leap 4 0 yes\n", "calendar own 7\nleap 4 0 yes\n", "month a 30 31\nleap 4 0 yes\n", "calendar 7\nmonth a 30 31\n", "calendar 7 own\nmonth a 30 31\n", "own 7\nmonth a 30 31\n", "calendar own seven\nmonth a 30 31\n",
	}
	good := "calendar own 7\nmonth a 30 31\nmonth b 28 29\nleap 4 0 yes\nleap 100 0 no\n"
	for _, c := range [][2]string{
		// A line too much or too little, and lines in another order.
		{"calendar own 7\n", ""}, {"month a 30 31\nmonth b 28 29\n", ""}, {good, good + good}, {good, "calendar own 7\n" + good}, {good, good + "calendar own 7\n"}, {"leap 4", "calendar own 7\nleap 4"}, {"calendar own 7\n", "calendar other 5\ncalendar own 7\n"}, {"month b", "calendar own 7\nmonth b"}, {"calendar own 7\nmonth a 30 31\n", "month a 30 31\ncalendar own 7\n"}, {"month b 28 29\nleap 4 0 yes\n", "leap 4 0 yes\nmonth b 28 29\n"}, {good, "leap 4 0 yes\nleap 100 0 no\ncalendar own 7\nmonth a 30 31\nmonth b 28 29\n"}, {"leap 100 0 no\n", "leap 100 0 no\nmonth c 1 1\n"}, {"month b", "month a 30 31\nmonth b"}, {"month b", "month b 1 1\nmonth b"}, {"month b", "other 1 1\nmonth b"}, {"month b", "own\nmonth b"}, {good, good + "end\n"}, {good, good + "end"}, {good, "begin\n" + good},
		// Blanks and newlines.
		{"calendar own 7\n", "calendar own 7\n\n"}, {"calendar own 7\n", "\ncalendar own 7\n"}, {"calendar own 7\n", "calendar own 7"}, {"calendar own 7\n", "calendar own 7 "}, {good, good[:len(good)-1]}, {good, good + "\n"}, {good, good + " "}, {good, " " + good}, {good, good + " \n"}, {"\n", "\r\n"}, {"\n", "\n\r"}, {"\n", "\r"}, {"\n", " \n"}, {"\n", "\n "}, {"\n", ""}, {"\n", "\n\n"}, {"\n", " "}, {"\n", "\u2028"}, {" ", "  "}, {" ", "\t"}, {" ", ""}, {" ", "\n"}, {" ", "\u00a0"}, {" ", ","}, {"calendar own", "calendar  own"}, {"own 7", "own  7"}, {"month a", "month  a"}, {"a 30", "a  30"}, {"30 31", "30  31"}, {"leap 4", "leap  4"}, {"4 0", "4  0"}, {"0 yes", "0  yes"}, {"yes\n", "yes \n"}, {"31\n", "31 \n"}, {"own 7", "own\t7"}, {"month a", "month\ta"}, {"0 no", "0\tno"}, {"own 7\n", "own 7\v\n"}, {"own 7\n", "own 7\x00\n"}, {good, "\ufeff" + good},
		// Words too much or too little, and other words.
		{"calendar own 7", "calendar own 7 7"}, {"calendar own 7", "calendar own"}, {"calendar own 7", "calendar 7"}, {"calendar own 7", "own 7"}, {"month a 30 31", "month a 30"}, {"month a 30 31", "month 30 31"}, {"month a 30 31", "a 30 31"}, {"month a 30 31", "month a 30 31 32"}, {"month a 30 31", "month a b 30 31"}, {"leap 4 0 yes", "leap 4 0"}, {"leap 4 0 yes", "leap 4 yes"}, {"leap 4 0 yes", "4 0 yes"}, {"leap 4 0 yes", "leap 4 0 yes yes"}, {"leap 4 0 yes", "leap 4 0 yes no"}, {"leap 4 0 yes", "leap a 4 0 yes"}, {"calendar", "Calendar"}, {"calendar", "CALENDAR"}, {"calendar", "calendars"}, {"calendar", "calenda"}, {"month", "Month"}, {"month", "months"}, {"month", "leap"}, {"leap", "month"}, {"leap", "Leap"}, {"leap", "rule"}, {"calendar", "month"}, {"month a", "calendar a"}, {"month a", "montha"}, {"leap 4", "leap4"},
		// Other words than yes and no.
		{"yes", "Yes"}, {"yes", "YES"}, {"yes", "y"}, {"yes", "yess"}, {"yes", "ye"}, {"yes", "true"}, {"yes", "1"}, {"yes", "31"}, {"yes", "-"}, {"0 yes", "0 "}, {"0 yes", "0"}, {"no", "No"}, {"no", "NO"}, {"no", "n"}, {"no", "not"}, {"no", "none"}, {"no", "false"}, {"no", "0"}, {"0 no", "0 "}, {"0 no", "0"},
		// Numbers with a sign or a leading 0, none, too large, or out of range.
		{"own 7", "own +7"}, {"own 7", "own -7"}, {"own 7", "own 07"}, {"own 7", "own 007"}, {"own 7", "own 0"}, {"own 7", "own 00"}, {"own 7", "own -0"}, {"own 7", "own 13"}, {"own 7", "own 7.0"}, {"own 7", "own x"}, {"own 7", "own ７"}, {"own 7", "own 4294967303"}, {"own 7", "own 18446744073709551623"}, {"own 7", "own 999999999999999999"}, {"own 7", "own 1000000000000000000"},
		{"a 30", "a +30"}, {"a 30", "a -30"}, {"a 30", "a 030"}, {"a 30", "a 0"}, {"a 30", "a 61"}, {"a 30", "a x"}, {"a 30", "a 3e1"}, {"a 30", "a 0x1e"}, {"a 30", "a 3_0"}, {"a 30", "a 4294967326"}, {"a 30", "a 18446744073709551646"}, {"a 30", "a 999999999999999999"}, {"30 31", "30 +31"}, {"30 31", "30 -31"}, {"30 31", "30 031"}, {"30 31", "30 0"}, {"30 31", "30 61"}, {"30 31", "30 x"}, {"30 31", "30 18446744073709551647"}, {"30 31", "30 9999999999999999999"},
		{"leap 4", "leap +4"}, {"leap 4", "leap -4"}, {"leap 4", "leap 04"}, {"leap 4", "leap 0"}, {"leap 4", "leap 1001"}, {"leap 4", "leap x"}, {"leap 4", "leap 4294967300"}, {"leap 4", "leap 18446744073709551620"}, {"leap 4", "leap 999999999999999999"}, {"4 0", "4 +0"}, {"4 0", "4 -0"}, {"4 0", "4 00"}, {"4 0", "4 01"}, {"4 0", "4 4"}, {"4 0", "4 5"}, {"4 0", "4 -1"}, {"4 0", "4 x"}, {"4 0", "4 yes"}, {"4 0", "4 18446744073709551616"}, {"4 0", "4 1000000000000000000"}, {"100 0", "100 100"}, {"100 0", "1000 1000"},
		// Names that are none, and a name twice.
		{"own", "Own"}, {"own", "7"}, {"own", "-"}, {"own", "1own"}, {"own", "abcdefghijklm"}, {"own", "o_n"}, {"own", "é"}, {"own", "\xff"}, {"month a", "month A"}, {"month a", "month 1"}, {"month a", "month -a"}, {"month a", "month abcdefghijklm"}, {"month a", "month b"}, {"month b", "month a"}, {"month b", "month b."},
		// Cycles and lists that are too long.
		{"leap 100 0 no", "leap 999 0 no"}, {"leap 4 0 yes\nleap 100 0 no", "leap 667 0 yes\nleap 3 0 no"}, {"leap 100 0 no\n", strings.Repeat("leap 4 0 no\n", 6)}, {"leap 100 0 no\n", strings.Repeat("leap 4 0 no\n", 50000)}, {"leap 4 0 yes\nleap 100 0 no\n", "leap 997 0 no\nleap 991 0 no\nleap 983 0 no\nleap 977 0 no\nleap 971 0 no\nleap 967 0 no\n"},
	} {
		changed := strings.Replace(good, c[0], c[1], 1)
		all := strings.ReplaceAll(good, c[0], c[1])
		if changed == good {
			panic(c[0])
		}
		list = append(list, changed, all)
	}
	months21 := "calendar own 7\n"
	for i := range 21 {
		months21 += fmt.Sprintf("month m%d 1 1\n", i)
	}
	return append(list, months21, months21+"leap 4 0 yes\n", strings.Repeat("\n", 100000), strings.Repeat(" ", 100000), strings.Repeat("calendar own 7\n", 50000), strings.Repeat(good, 2000), "calendar own 7\n"+strings.Repeat("month a 30 31\n", 50000), "calendar "+strings.Repeat("a", 100000)+" 7\nmonth a 30 31\n", "calendar own "+strings.Repeat("9", 100000)+"\nmonth a 30 31\n", "calendar own "+strings.Repeat("0", 100000)+"7\nmonth a 30 31\n", "calendar own 7"+strings.Repeat(" ", 100000)+"\nmonth a 30 31\n", "calendar own 7\nmonth a 30 31"+strings.Repeat(" 31", 50000)+"\n")
}

func TestPromise15TextsOfNoCalendars(t *testing.T) {
	for _, s := range textsOfNoCalendars() {
		if got, ok := impl.ReadCalendar(s); !noCalendar(got) || ok {
			t.Errorf("ReadCalendar(%.200q): got %v %t, want none", s, got, ok)
		}
		checkReadCalendar(t, s)
	}
	// Texts of calendars that are not valid.
	for _, bad := range badCalendars() {
		text := fmt.Sprintf("calendar %s %d\n", bad.Name, bad.Week)
		for _, m := range bad.Months {
			text += fmt.Sprintf("month %s %d %d\n", m.Name, m.Days, m.Leap)
		}
		for _, r := range bad.Rules {
			text += fmt.Sprintf("leap %d %d yes\n", r.Every, r.Rest)
		}
		if got, ok := impl.ReadCalendar(text); !noCalendar(got) || ok {
			t.Errorf("ReadCalendar(%.200q): got %v %t, want none", text, got, ok)
		}
	}
}

func TestPromise15ReadCalendarOfChangedTexts(t *testing.T) {
	for _, text := range []string{"calendar own 7\nmonth a 30 31\nleap 4 0 yes\n", "calendar o-9 12\nmonth b 1 60\nmonth a 9 10\nleap 16 15 no\nleap 1000 1 yes\n"} {
		checkChanges(t, text, checkReadCalendar)
	}
}

func TestPromise15ReadCalendarOfChangedLines(t *testing.T) {
	source := rand.New(rand.NewSource(155))
	read, other := 0, 0
	for range 4000 {
		text := expectCalendarText(anyCalendar(source))
		for range 4 {
			text = changedLines(text, source)
			if checkReadCalendar(t, text) {
				read++
			} else {
				other++
			}
		}
	}
	if read < 2000 || other < 2000 {
		t.Errorf("%d texts were those of calendars, and %d were not", read, other)
	}
}

func TestPromise15ErrorsInTheirOrder(t *testing.T) {
	years := append(notYears(), 0, 4, 2000, 9999)
	for _, bad := range badCalendars() {
		for _, year := range years {
			// Instead of ErrRange.
			for _, month := range append(farNumbers(), -1, 0, 1, 13, 21) {
				checkMonth(t, bad, year, month, 0, impl.ErrInvalid)
			}
			if days, code := impl.DaysInYear(bad, year); days != 0 || code != impl.ErrInvalid {
				t.Errorf("DaysInYear(%v, %d): got %d, code %d", bad, year, days, code)
			}
		}
	}
	for _, good := range goodCalendars() {
		for _, year := range notYears() {
			// Both a year and a month that there is not, which is the same error.
			for _, month := range append(farNumbers(), -1, 0, 1, 21) {
				checkMonth(t, good, year, month, 0, impl.ErrRange)
			}
			if days, code := impl.DaysInYear(good, year); days != 0 || code != impl.ErrRange {
				t.Errorf("DaysInYear(%v, %d): got %d, code %d", good, year, days, code)
			}
		}
	}
}

// crowdedCalendar returns the same calendar with parts of longer slices, whose spare capacity is in use.
func crowdedCalendar(c impl.Calendar) impl.Calendar {
	count, others := len(c.Months), len(c.Rules)
	c.Months = append(slices.Clone(c.Months), months("y 5 6, z 7 8")...)[:count]
	c.Rules = append(slices.Clone(c.Rules), rules("9 8 yes, 7 6 no")...)[:others]
	return c
}

// wholeCalendar returns a text of everything in the slices of a calendar, also behind their ends.
func wholeCalendar(c impl.Calendar) string {
	return fmt.Sprint(c.Name, c.Week, c.Months[:cap(c.Months)], c.Rules[:cap(c.Rules)])
}

// calendarResults returns all that the functions of calendars tell.
func calendarResults(c, other impl.Calendar, year, month int64, name string) string {
	var text strings.Builder
	tell := func(values ...any) { text.WriteString(fmt.Sprintln(values...)) }
	tell(impl.ValidCalendar(c), impl.SameCalendar(c, other), impl.SameCalendar(other, c), impl.CalendarNames())
	named, code := impl.CalendarNamed(name)
	tell(named, code)
	spoil(named)
	tell(impl.IsLeapYear(c, year))
	days, code := impl.DaysInMonth(c, year, month)
	tell(days, code)
	days, code = impl.DaysInYear(c, year)
	tell(days, code)
	years, days, code := impl.CycleOf(c)
	tell(years, days, code)
	mean, code := impl.MeanYear(c)
	tell(mean, code)
	line := impl.CalendarText(c)
	tell(line)
	read, ok := impl.ReadCalendar(line)
	tell(read, ok)
	spoil(read)
	return text.String()
}

func TestPromise1CalendarsAreNotModified(t *testing.T) {
	source := rand.New(rand.NewSource(156))
	list := append(goodCalendars(), badCalendars()...)
	for range 200 {
		list = append(list, anyCalendar(source))
	}
	for i, c := range list {
		c, other := crowdedCalendar(c), crowdedCalendar(list[(i+1)%len(list)])
		whole, wholeOther := wholeCalendar(c), wholeCalendar(other)
		want := calendarResults(c, other, 2000, 2, "fixed")
		if wholeCalendar(c) != whole || wholeCalendar(other) != wholeOther {
			t.Errorf("the functions of calendars changed %s to %s, or %s to %s", whole, wholeCalendar(c), wholeOther, wholeCalendar(other))
		}
		if got := calendarResults(copyOfCalendar(c), copyOfCalendar(other), 2000, 2, "fixed"); got != want {
			t.Errorf("results for %v: got %s, but %s before", c, got, want)
		}
	}
	nothing, empty := ruled(""), impl.Calendar{Name: "own", Months: months("a 30 31"), Rules: []impl.LeapRule{}, Week: 7}
	if a, b := calendarResults(nothing, empty, 5, 1, "julian"), calendarResults(empty, nothing, 5, 1, "julian"); a != b {
		t.Errorf("nil rules lead to %s, empty ones to %s", a, b)
	}
	if a, b := calendarResults(impl.Calendar{}, impl.Calendar{}, 5, 1, "none"), calendarResults(impl.Calendar{Months: []impl.Month{}, Rules: []impl.LeapRule{}}, impl.Calendar{}, 5, 1, "none"); a != b {
		t.Errorf("nil lists lead to %s, empty ones to %s", a, b)
	}
}

func TestPromise1CalendarsFromSeveralGoroutines(t *testing.T) {
	source := rand.New(rand.NewSource(157))
	list := append(goodCalendars(), badCalendars()[:40]...)
	for range 60 {
		list = append(list, anyCalendar(source))
	}
	checkFromGoroutines(t, len(list), func(i int) string {
		return calendarResults(list[i], list[(i+1)%len(list)], int64(i)*37, int64(i)%13, givenNames()[i%4])
	})
}
