package tests

import (
	"math/big"
	"math/rand"
	"regexp"
	"slices"
	"strconv"
	"strings"
	"sync"
	"testing"

	"loop.example/g00921/impl"
)

// gears returns planetary gears with the ring that fits the other wheels.
func gears(sun, planet, count int64) impl.Epi {
	return impl.Epi{Sun: sun, Ring: sun + 2*planet, Planet: planet, Count: count}
}

// withRing returns planetary gears with a ring that need not fit.
func withRing(sun, ring, planet, count int64) impl.Epi {
	return impl.Epi{Sun: sun, Ring: ring, Planet: planet, Count: count}
}

// haveSpace reports whether planets next to each other do not touch.
func haveSpace(e impl.Epi) bool {
	s := map[int64]int64{2: 1000000, 3: 866025, 4: 707106, 5: 587785, 6: 500000, 7: 433883, 8: 382683}
	return e.Count == 1 || (e.Sun+e.Planet)*s[e.Count] > (e.Planet+2)*1000000
}

// expectFaults returns the words of EpiFaults, separated by blanks.
func expectFaults(e impl.Epi) string {
	var words []string
	if min(e.Sun, e.Ring, e.Planet) < 6 || max(e.Sun, e.Ring, e.Planet) > 240 {
		words = append(words, "teeth")
	}
	if e.Count < 1 || e.Count > 8 {
		words = append(words, "count")
	}
	if len(words) > 0 {
		return strings.Join(words, " ")
	}
	if e.Ring-e.Sun != e.Planet*2 {
		words = append(words, "ring")
	}
	if (e.Sun+e.Ring)/e.Count*e.Count != e.Sun+e.Ring {
		words = append(words, "assembly")
	}
	if !haveSpace(e) {
		words = append(words, "space")
	}
	return strings.Join(words, " ")
}

func checkFaults(t *testing.T, e impl.Epi, want string) {
	t.Helper()
	if got := impl.EpiFaults(e); strings.Join(got, " ") != want {
		t.Errorf("EpiFaults(%v): got %q, want %q", e, got, want)
	}
	if got := impl.ValidEpi(e); got != (want == "") {
		t.Errorf("ValidEpi(%v): got %t, but its faults are %q", e, got, want)
	}
}

// allGears returns all valid planetary gears with a number of planets, ordered by Sun and then by Planet.
func allGears(count int64) []impl.Epi {
	var list []impl.Epi
	for sun := int64(6); sun <= 240; sun++ {
		for planet := int64(6); sun+2*planet <= 240; planet++ {
			if e := gears(sun, planet, count); expectFaults(e) == "" {
				list = append(list, e)
			}
		}
	}
	return list
}

// someGears are valid planetary gears with each number of planets, with the least and the greatest wheels, and random ones.
func someGears() []impl.Epi {
	list := []impl.Epi{gears(24, 12, 4), gears(24, 24, 4), gears(36, 12, 4), gears(6, 6, 1), gears(6, 117, 1), gears(228, 6, 1), gears(6, 117, 2), gears(228, 6, 2), gears(76, 82, 1), gears(80, 80, 1)}
	source := rand.New(rand.NewSource(71))
	for count := int64(1); count <= 8; count++ {
		all := allGears(count)
		for range 12 {
			list = append(list, all[source.Intn(len(all))])
		}
	}
	return list
}

// notGears are planetary gears with each fault, alone and together with others.
func notGears() []impl.Epi {
	list := []impl.Epi{
		{}, withRing(24, 49, 12, 4), withRing(24, 47, 12, 4), gears(24, 12, 5), gears(11, 7, 6), gears(6, 24, 3), gears(43, 97, 4), gears(37, 48, 5), gears(97, 71, 7), gears(81, 47, 8), gears(7, 48, 5),
		withRing(24, 48, 12, 0), withRing(24, 48, 12, 9), gears(5, 12, 1), gears(24, 5, 1), gears(6, 118, 1), gears(229, 6, 1), gears(241, 6, 1), withRing(6, 240, 241, 1), withRing(6, 5, 6, 1), withRing(-24, -48, -12, 4),
		withRing(24, -48, 12, 4), withRing(0, 0, 0, 0), withRing(least, least, least, least), withRing(greatest, greatest, greatest, greatest), withRing(24, 24, 1<<63-1, 4), withRing(24, 48, 12, least), withRing(24, 48, 12, greatest), withRing(24, 48, 12, 1<<32+4),
	}
	for _, bad := range notToothCounts() {
		list = append(list, withRing(bad, 48, 12, 4), withRing(24, bad, 12, 4), withRing(24, 48, bad, 4), withRing(bad, bad, bad, 4))
	}
	return list
}

func TestPromise7Limits(t *testing.T) {
	if impl.EpSun != 0 || impl.EpRing != 1 || impl.EpCarrier != 2 || impl.MaxPlanets != 8 || impl.MaxEpis != 20 {
		t.Errorf("EpSun, EpRing, EpCarrier, MaxPlanets, MaxEpis: got %d %d %d %d %d", impl.EpSun, impl.EpRing, impl.EpCarrier, impl.MaxPlanets, impl.MaxEpis)
	}
}

type faultsCase struct {
	e    impl.Epi
	want string
}

func TestPromise7EpiFaults(t *testing.T) {
	for _, c := range []faultsCase{
		{gears(24, 12, 4), ""}, {gears(24, 12, 5), "assembly"}, {withRing(24, 49, 12, 4), "ring assembly"}, {withRing(5, 29, 12, 0), "teeth count"},
		// Wheels of MinTeeth and MaxTeeth, and of one tooth less and one more.
		{gears(6, 6, 1), ""}, {gears(5, 6, 1), "teeth"}, {gears(6, 5, 1), "teeth"}, {gears(7, 7, 1), ""}, {withRing(6, 6, 6, 1), "ring"}, {withRing(6, 5, 6, 1), "teeth"}, {withRing(6, 7, 6, 1), "ring"},
		{gears(6, 117, 1), ""}, {gears(6, 118, 1), "teeth"}, {gears(7, 117, 1), "teeth"}, {gears(228, 6, 1), ""}, {gears(229, 6, 1), "teeth"}, {withRing(7, 240, 117, 1), "ring"}, {withRing(7, 241, 117, 1), "teeth"},
		{withRing(240, 240, 6, 1), "ring"}, {withRing(241, 240, 6, 1), "teeth"}, {withRing(239, 240, 6, 1), "ring"}, {withRing(6, 240, 240, 1), "ring"}, {withRing(6, 240, 241, 1), "teeth"}, {withRing(6, 240, 239, 1), "ring"},
		{withRing(240, 240, 240, 1), "ring"}, {withRing(241, 241, 241, 1), "teeth"}, {withRing(5, 5, 5, 1), "teeth"}, {withRing(0, 0, 0, 1), "teeth"}, {withRing(-24, -48, -12, 4), "teeth"}, {withRing(24, 0, -12, 4), "teeth"},
		// Numbers of planets.
		{gears(24, 12, -1), "count"}, {gears(24, 12, 0), "count"}, {gears(24, 12, 1), ""}, {gears(24, 12, 2), ""}, {gears(24, 12, 3), ""}, {gears(24, 12, 6), ""}, {gears(24, 12, 7), "assembly"}, {gears(24, 12, 8), "space"}, {gears(44, 24, 8), ""}, {gears(44, 24, 9), "count"}, {gears(24, 12, 9), "count"},
		{gears(24, 12, least), "count"}, {gears(24, 12, greatest), "count"}, {gears(24, 12, 1<<32+4), "count"}, {gears(24, 12, 1<<62), "count"}, {gears(24, 12, -4), "count"},
		// Rings of one tooth less and one more.
		{withRing(24, 47, 12, 1), "ring"}, {withRing(24, 48, 12, 1), ""}, {withRing(24, 49, 12, 1), "ring"}, {withRing(24, 36, 12, 4), "ring"}, {withRing(24, 72, 12, 4), "ring"}, {withRing(12, 48, 24, 4), "ring space"},
		// Faults that apply together, in order, and words that are left out.
		{withRing(24, 47, 12, 4), "ring assembly"}, {withRing(6, 55, 24, 3), "ring assembly space"}, {withRing(6, 57, 24, 3), "ring space"}, {gears(6, 25, 3), "assembly space"}, {gears(7, 48, 5), "space"}, {gears(7, 49, 5), "assembly space"},
		{withRing(5, 55, 24, 3), "teeth"}, {withRing(6, 55, 241, 3), "teeth"}, {withRing(6, 55, 24, 0), "count"}, {withRing(6, 55, 24, 9), "count"}, {withRing(6, 241, 24, 9), "teeth count"}, {impl.Epi{}, "teeth count"},
		{withRing(least, least, least, least), "teeth count"}, {withRing(greatest, greatest, greatest, greatest), "teeth count"}, {withRing(24, 24, 1<<63-1, 4), "teeth"}, {withRing(24, 24, least, 4), "teeth"},
	} {
		checkFaults(t, c.e, c.want)
	}
}

func TestPromise7SpaceForPlanets(t *testing.T) {
	for _, c := range []faultsCase{
		// Just enough space, and just too little, of all gears that can be assembled; two planets always have enough.
		{gears(6, 117, 2), ""}, {gears(19, 107, 3), ""}, {gears(6, 24, 3), "space"}, {gears(19, 39, 4), ""}, {gears(43, 97, 4), "space"}, {gears(35, 45, 5), ""}, {gears(37, 48, 5), "space"},
		{gears(13, 8, 6), ""}, {gears(11, 7, 6), "space"}, {gears(14, 7, 7), ""}, {gears(97, 71, 7), "space"}, {gears(44, 24, 8), ""}, {gears(81, 47, 8), "space"},
		// The same sun with smaller planets and with greater ones.
		{gears(6, 21, 3), ""}, {gears(6, 6, 4), ""}, {gears(6, 8, 4), "space"}, {gears(12, 6, 6), ""}, {gears(12, 9, 6), "space"}, {gears(17, 7, 8), ""}, {gears(17, 11, 8), "space"},
		// With 6 planets, both sides may be equal, and then there is too little space.
		{gears(14, 10, 6), "space"}, {gears(15, 10, 6), "assembly"}, {gears(17, 13, 6), "space"}, {gears(16, 12, 6), "assembly space"}, {gears(18, 12, 6), ""},
		// The same wheels with fewer planets.
		{gears(81, 47, 1), ""}, {gears(81, 47, 2), ""}, {gears(81, 47, 4), ""}, {gears(6, 24, 1), ""}, {gears(6, 24, 2), ""}, {gears(43, 97, 1), ""}, {gears(43, 97, 2), ""},
	} {
		checkFaults(t, c.e, c.want)
	}
}

func TestPromise7FaultsOfAllGears(t *testing.T) {
	faults := map[string]int{}
	for count := int64(0); count <= 9; count++ {
		for sun := int64(5); sun <= 241; sun++ {
			for planet := int64(5); planet <= 125; planet++ {
				e := gears(sun, planet, count)
				// Some rings have one or two teeth less or more.
				e.Ring += max(0, (sun*7+planet*3+count)%7-4) * (1 - sun%2*2)
				want := expectFaults(e)
				checkFaults(t, e, want)
				faults[want]++
			}
		}
	}
	for _, want := range []string{"", "teeth", "count", "teeth count", "ring", "assembly", "space", "ring assembly", "ring space", "assembly space", "ring assembly space"} {
		if faults[want] < 100 {
			t.Errorf("only %d gears have the faults %q", faults[want], want)
		}
	}
	for _, e := range append(someGears(), notGears()...) {
		checkFaults(t, e, expectFaults(e))
	}
}

// steps computes with valid ratios, and notes whether one of the results is none.
type steps struct{ failed bool }

func (s *steps) keep(x *big.Rat) *big.Rat {
	_, ok := exactly(x)
	s.failed = s.failed || !ok
	return x
}

func (s *steps) add(a, b *big.Rat) *big.Rat { return s.keep(new(big.Rat).Add(a, b)) }
func (s *steps) sub(a, b *big.Rat) *big.Rat { return s.keep(new(big.Rat).Sub(a, b)) }
func (s *steps) mul(a, b *big.Rat) *big.Rat { return s.keep(new(big.Rat).Mul(a, b)) }

// result returns the last result; the second value tells whether it is hidden by an earlier one that is not valid.
func (s *steps) result(x *big.Rat) (impl.Ratio, int64, bool) {
	last, ok := exactly(x)
	if s.failed {
		return impl.Ratio{}, impl.ErrRange, ok
	}
	return last, impl.OK, false
}

// speedFunction is a function that computes a speed from two others, and what it should return for valid arguments.
type speedFunction struct {
	name   string
	call   func(e impl.Epi, a, b impl.Ratio) (impl.Ratio, int64)
	expect func(e impl.Epi, a, b impl.Ratio) (impl.Ratio, int64, bool)
}

// beside expects carrier - (a - carrier) * (teeth / own).
func beside(a, carrier impl.Ratio, teeth, own int64) (impl.Ratio, int64, bool) {
	var s steps
	c := bigOf(carrier)
	return s.result(s.sub(c, s.mul(s.sub(bigOf(a), c), big.NewRat(teeth, own))))
}

func meanOf(e impl.Epi, sun, ring impl.Ratio) (impl.Ratio, int64, bool) {
	var s steps
	bySun := s.mul(bigOf(sun), big.NewRat(e.Sun, e.Sun+e.Ring))
	byRing := s.mul(bigOf(ring), big.NewRat(e.Ring, e.Sun+e.Ring))
	return s.result(s.add(bySun, byRing))
}

func speedFunctions() []speedFunction {
	return []speedFunction{
		{"SunOf", impl.SunOf, func(e impl.Epi, a, b impl.Ratio) (impl.Ratio, int64, bool) { return beside(a, b, e.Ring, e.Sun) }},
		{"RingOf", impl.RingOf, func(e impl.Epi, a, b impl.Ratio) (impl.Ratio, int64, bool) { return beside(a, b, e.Sun, e.Ring) }},
		{"CarrierOf", impl.CarrierOf, meanOf},
		{"PlanetOf", impl.PlanetOf, func(e impl.Epi, a, b impl.Ratio) (impl.Ratio, int64, bool) { return beside(a, b, e.Sun, e.Planet) }},
	}
}

type speedCase struct {
	e    impl.Epi
	a, b impl.Ratio
	want impl.Ratio
	code int64
}

// fits is a case with a speed as its result.
func fits(e impl.Epi, a, b, want impl.Ratio) speedCase {
	return speedCase{e: e, a: a, b: b, want: want, code: impl.OK}
}

// tooFine is a case in which a result on the way is not a valid ratio.
func tooFine(e impl.Epi, a, b impl.Ratio) speedCase {
	return speedCase{e: e, a: a, b: b, code: impl.ErrRange}
}

// differentials are the functions of differentials, which have nothing to do with e.
func differentials() []speedFunction {
	return []speedFunction{
		{"CageOf", func(_ impl.Epi, a, b impl.Ratio) (impl.Ratio, int64) { return impl.CageOf(a, b) }, func(_ impl.Epi, a, b impl.Ratio) (impl.Ratio, int64, bool) {
			var s steps
			return s.result(s.mul(s.add(bigOf(a), bigOf(b)), big.NewRat(1, 2)))
		}},
		{"SideOf", func(_ impl.Epi, a, b impl.Ratio) (impl.Ratio, int64) { return impl.SideOf(a, b) }, func(_ impl.Epi, a, b impl.Ratio) (impl.Ratio, int64, bool) {
			var s steps
			return s.result(s.sub(s.add(bigOf(a), bigOf(a)), bigOf(b)))
		}},
	}
}

func speedFunctionNamed(name string) speedFunction {
	list := append(speedFunctions(), differentials()...)
	return list[slices.IndexFunc(list, func(f speedFunction) bool { return f.name == name })]
}

// checkSpeeds checks a function with cases, the first hidden ones of which have a valid last result behind one that is not.
func checkSpeeds(t *testing.T, name string, hidden int, cases ...speedCase) {
	t.Helper()
	f := speedFunctionNamed(name)
	for i, c := range cases {
		if got, code := f.call(c.e, c.a, c.b); got != c.want || code != c.code {
			t.Errorf("%s(%v, %v, %v): got %v %d, want %v %d", name, c.e, c.a, c.b, got, code, c.want, c.code)
		}
		if _, _, isHidden := f.expect(c.e, c.a, c.b); isHidden != (i < hidden) {
			t.Errorf("%s(%v, %v, %v): the last result is hidden: %t", name, c.e, c.a, c.b, isHidden)
		}
	}
}

func TestPromise7SunOf(t *testing.T) {
	e, other := gears(24, 12, 4), gears(36, 12, 4)
	checkSpeeds(t, "SunOf", 3,
		// The difference of the speeds, or its product with Ring / Sun, is no valid ratio.
		tooFine(e, over(1, 40022), over(1, 30021)), tooFine(gears(24, 24, 4), over(most, 1), over(most/2, 1)), tooFine(gears(24, 24, 4), over(-most, 1), over(-most/2, 1)),
		fits(e, over(0, 1), over(1, 1), over(3, 1)), fits(e, over(0, 1), over(0, 1), over(0, 1)), fits(e, over(1, 1), over(0, 1), over(-2, 1)), fits(e, over(-1, 1), over(0, 1), over(2, 1)), fits(e, over(0, 1), over(-1, 1), over(-3, 1)),
		fits(e, over(1, 1), over(1, 1), over(1, 1)), fits(e, over(-5, 3), over(-5, 3), over(-5, 3)), fits(e, over(1, 2), over(1, 3), over(0, 1)), fits(other, over(1, 1), over(0, 1), over(-5, 3)), fits(other, over(-3, 5), over(1, 1), over(11, 3)),
		fits(e, over(most, 1), over(most, 1), over(most, 1)), fits(e, over(-most, 1), over(-most, 1), over(-most, 1)), fits(e, over(most/2, 1), over(0, 1), over(-most, 1)), tooFine(e, over(most/2+1, 1), over(0, 1)),
		fits(e, over(1, most), over(0, 1), over(-1, most/2)), fits(other, over(1, most), over(0, 1), over(-1, most/5*3)), tooFine(other, over(1, most-1), over(0, 1)),
		fits(e, over(0, 1), over(most/3, 1), over(most/3*3, 1)), tooFine(e, over(0, 1), over(most/3+1, 1)), tooFine(e, over(most, 1), over(-most, 1)), tooFine(e, over(-most, 1), over(most, 1)),
	)
}

func TestPromise7RingOf(t *testing.T) {
	e, other := gears(24, 12, 4), gears(36, 12, 4)
	checkSpeeds(t, "RingOf", 3,
		tooFine(gears(6, 9, 1), over(-3*most/5, 1), over(3*most/5, 1)), tooFine(gears(6, 9, 1), over(3*most/5, 1), over(-3*most/5, 1)), tooFine(e, over(1, 140000000), over(1, 175000000)),
		fits(e, over(1, 1), over(0, 1), over(-1, 2)), fits(e, over(0, 1), over(0, 1), over(0, 1)), fits(e, over(0, 1), over(1, 1), over(3, 2)), fits(e, over(-1, 1), over(0, 1), over(1, 2)), fits(e, over(0, 1), over(-1, 1), over(-3, 2)),
		fits(e, over(1, 1), over(1, 1), over(1, 1)), fits(e, over(-5, 3), over(-5, 3), over(-5, 3)), fits(e, over(3, 1), over(1, 1), over(0, 1)), fits(other, over(1, 1), over(0, 1), over(-3, 5)), fits(other, over(11, 3), over(1, 1), over(-3, 5)),
		fits(e, over(most, 1), over(most, 1), over(most, 1)), fits(e, over(most, 1), over(0, 1), over(-most/2, 1)), fits(e, over(2, most-1), over(0, 1), over(-1, most-1)), tooFine(e, over(1, most-1), over(0, 1)), tooFine(e, over(1, most), over(0, 1)),
		fits(e, over(0, 1), over(most/3*2, 1), over(most/3*3, 1)), tooFine(e, over(0, 1), over(most/3*2+2, 1)), tooFine(e, over(most, 1), over(-most, 1)), tooFine(e, over(-most, 1), over(most, 1)),
	)
}

func TestPromise7CarrierOf(t *testing.T) {
	e, other := gears(24, 12, 4), gears(36, 12, 4)
	checkSpeeds(t, "CarrierOf", 2,
		// The part of the sun, or that of the ring, is no valid ratio.
		tooFine(e, over(1, 400000000), over(1, 400000000)), tooFine(e, over(3, 175000000), over(1, 700000000)),
		fits(e, over(1, 1), over(1, 1), over(1, 1)), fits(e, over(0, 1), over(0, 1), over(0, 1)), fits(e, over(1, 1), over(0, 1), over(1, 3)), fits(e, over(0, 1), over(1, 1), over(2, 3)), fits(e, over(-1, 1), over(0, 1), over(-1, 3)), fits(e, over(0, 1), over(-1, 1), over(-2, 3)),
		fits(e, over(3, 1), over(0, 1), over(1, 1)), fits(e, over(2, 1), over(-1, 1), over(0, 1)), fits(e, over(-5, 2), over(-5, 2), over(-5, 2)), fits(other, over(1, 1), over(0, 1), over(3, 8)), fits(other, over(0, 1), over(1, 1), over(5, 8)), fits(other, over(7, 3), over(1, 1), over(3, 2)),
		fits(other, over(most, 1), over(most, 1), over(most, 1)), fits(other, over(-most, 1), over(-most, 1), over(-most, 1)), fits(other, over(most, 1), over(-most, 1), over(-most/4, 1)), tooFine(e, over(1, most-1), over(0, 1)),
		fits(e, over(3, most), over(0, 1), over(1, most)), fits(e, over(0, 1), over(3, most), over(1, most/2)), tooFine(e, over(0, 1), over(1, most)), tooFine(e, over(3, most-9), over(1, most/2)),
	)
}

func TestPromise7PlanetOf(t *testing.T) {
	e, other := gears(24, 12, 4), gears(36, 12, 4)
	checkSpeeds(t, "PlanetOf", 3,
		tooFine(e, over(1, 40022), over(1, 30021)), tooFine(other, over(most, 1), over(most/2, 1)), tooFine(other, over(-most, 1), over(-most/2, 1)),
		fits(e, over(1, 1), over(0, 1), over(-2, 1)), fits(e, over(0, 1), over(0, 1), over(0, 1)), fits(e, over(0, 1), over(1, 1), over(3, 1)), fits(e, over(-1, 1), over(0, 1), over(2, 1)), fits(e, over(0, 1), over(-1, 1), over(-3, 1)),
		fits(e, over(1, 1), over(1, 1), over(1, 1)), fits(e, over(-5, 3), over(-5, 3), over(-5, 3)), fits(e, over(1, 2), over(1, 3), over(0, 1)), fits(other, over(1, 1), over(0, 1), over(-3, 1)), fits(gears(12, 24, 1), over(1, 1), over(0, 1), over(-1, 2)),
		fits(gears(6, 117, 2), over(1, 1), over(0, 1), over(-2, 39)), fits(gears(228, 6, 2), over(1, 1), over(0, 1), over(-38, 1)), fits(gears(228, 6, 2), over(0, 1), over(1, 1), over(39, 1)),
		fits(e, over(most, 1), over(most, 1), over(most, 1)), fits(e, over(most/2, 1), over(0, 1), over(-most, 1)), tooFine(e, over(most/2+1, 1), over(0, 1)), tooFine(e, over(0, 1), over(most/3+1, 1)),
		tooFine(gears(12, 24, 1), over(1, most-1), over(0, 1)), tooFine(e, over(most, 1), over(-most, 1)), tooFine(e, over(-most, 1), over(most, 1)),
	)
}

// pairOfSpeeds returns two speeds: small ones, great ones, or ones with great denominators that have common factors.
func pairOfSpeeds(source *rand.Rand) (impl.Ratio, impl.Ratio) {
	list := [2]impl.Ratio{}
	kind := source.Intn(4)
	for i := range list {
		n, d := source.Int63n(41)-20, 1+source.Int63n(12)
		switch kind {
		case 1:
			n, d = source.Int63n(2*most+1)-most, 1
		case 2:
			dens := []int64{140000000, 175000000, 400000000, 600000000, 700000000, 720720000, 900000000, most - 1, most}
			d = dens[source.Intn(len(dens))]
		case 3:
			all := validRatios()[:30]
			list[i] = all[source.Intn(len(all))]
			continue
		}
		list[i], _ = exactly(big.NewRat(n, d))
	}
	return list[0], list[1]
}

func TestPromise7SpeedsAreComputedInOrder(t *testing.T) {
	source := rand.New(rand.NewSource(72))
	for _, f := range append(speedFunctions(), differentials()...) {
		codes, hidden := map[int64]int{}, 0
		for _, e := range someGears() {
			for range 120 {
				a, b := pairOfSpeeds(source)
				want, wantCode, isHidden := f.expect(e, a, b)
				if got, code := f.call(e, a, b); got != want || code != wantCode {
					t.Errorf("%s(%v, %v, %v): got %v %d, want %v %d", f.name, e, a, b, got, code, want, wantCode)
				}
				codes[wantCode]++
				if isHidden {
					hidden++
				}
			}
		}
		if codes[impl.OK] < 2000 || codes[impl.ErrRange] < 2000 || hidden < 100 {
			t.Errorf("%s: speeds that were tried: %v, %d of them with a hidden result", f.name, codes, hidden)
		}
	}
}

// engage reports whether wheels with the speeds a and b, of which teeth and others engage, fit each other as seen from a carrier.
func engage(a, b, carrier impl.Ratio, teeth, others int64) bool {
	left := new(big.Rat).Sub(bigOf(a), bigOf(carrier))
	right := new(big.Rat).Sub(bigOf(b), bigOf(carrier))
	left.Mul(left, big.NewRat(teeth, 1))
	right.Mul(right, big.NewRat(-others, 1))
	return left.Cmp(right) == 0
}

func TestPromise7SpeedsFitEachOther(t *testing.T) {
	source := rand.New(rand.NewSource(73))
	tried := map[string]int{}
	for _, e := range someGears() {
		for range 150 {
			a, b := pairOfSpeeds(source)
			if sun, code := impl.SunOf(e, a, b); code == impl.OK {
				tried["sun"]++
				checkFit(t, e, sun, a, b)
			}
			if ring, code := impl.RingOf(e, a, b); code == impl.OK {
				tried["ring"]++
				checkFit(t, e, a, ring, b)
			}
			if carrier, code := impl.CarrierOf(e, a, b); code == impl.OK {
				tried["carrier"]++
				checkFit(t, e, a, b, carrier)
			}
		}
	}
	if len(tried) != 3 || min(tried["sun"], tried["ring"], tried["carrier"]) < 3000 {
		t.Errorf("speeds that were tried: %v", tried)
	}
}

// checkFit checks that the speeds of planetary gears fit each other, and that each follows from the others.
func checkFit(t *testing.T, e impl.Epi, sun, ring, carrier impl.Ratio) {
	t.Helper()
	if !engage(sun, ring, carrier, e.Sun, e.Ring) {
		t.Errorf("the speeds of %v do not fit: %v %v %v", e, sun, ring, carrier)
	}
	if planet, code := impl.PlanetOf(e, sun, carrier); code == impl.OK && (!engage(planet, sun, carrier, e.Planet, e.Sun) || !engage(planet, ring, carrier, -e.Planet, e.Ring)) {
		t.Errorf("the speed %v of the planets of %v does not fit: %v %v %v", planet, e, sun, ring, carrier)
	}
	if got, code := impl.SunOf(e, ring, carrier); code == impl.OK && got != sun {
		t.Errorf("SunOf(%v, %v, %v): got %v, but its speed was %v", e, ring, carrier, got, sun)
	}
	if got, code := impl.RingOf(e, sun, carrier); code == impl.OK && got != ring {
		t.Errorf("RingOf(%v, %v, %v): got %v, but its speed was %v", e, sun, carrier, got, ring)
	}
	if got, code := impl.CarrierOf(e, sun, ring); code == impl.OK && got != carrier {
		t.Errorf("CarrierOf(%v, %v, %v): got %v, but its speed was %v", e, sun, ring, got, carrier)
	}
}

func TestPromise7SpeedsOfInvalidGears(t *testing.T) {
	bad := invalidRatios()
	for _, f := range speedFunctions() {
		for i, e := range notGears() {
			for _, pair := range [][2]impl.Ratio{{over(1, 1), over(0, 1)}, {over(0, 1), over(0, 1)}, {over(most, 1), over(-most, 1)}, {over(1, 40022), over(1, 30021)}, {bad[i%len(bad)], over(0, 1)}, {over(0, 1), bad[i%len(bad)]}, {bad[i%len(bad)], bad[0]}} {
				if got, code := f.call(e, pair[0], pair[1]); got != (impl.Ratio{}) || code != impl.ErrInvalid {
					t.Errorf("%s(%v, %v): got %v %d, want ErrInvalid", f.name, e, pair, got, code)
				}
			}
		}
	}
}

func TestPromise7InvalidSpeeds(t *testing.T) {
	all := []impl.Epi{gears(24, 12, 4), gears(6, 117, 1), gears(228, 6, 2)}
	for _, f := range append(speedFunctions(), differentials()...) {
		for _, bad := range invalidRatios() {
			// Some of the valid speeds have no valid sum or difference with others.
			for _, good := range append(validRatios(), bad) {
				for _, e := range all {
					if got, code := f.call(e, bad, good); got != (impl.Ratio{}) || code != impl.ErrInvalid {
						t.Errorf("%s(%v, %v, %v): got %v %d, want ErrInvalid", f.name, e, bad, good, got, code)
					}
					if got, code := f.call(e, good, bad); got != (impl.Ratio{}) || code != impl.ErrInvalid {
						t.Errorf("%s(%v, %v, %v): got %v %d, want ErrInvalid", f.name, e, good, bad, got, code)
					}
				}
			}
		}
	}
}

func TestPromise7EpiRatio(t *testing.T) {
	e := gears(24, 12, 4)
	for _, c := range []struct {
		from, to int64
		want     impl.Ratio
		code     int64
	}{
		{impl.EpSun, impl.EpRing, over(-1, 2), impl.OK}, {impl.EpRing, impl.EpSun, over(-2, 1), impl.OK}, {impl.EpSun, impl.EpCarrier, over(1, 3), impl.OK}, {impl.EpCarrier, impl.EpSun, over(3, 1), impl.OK}, {impl.EpRing, impl.EpCarrier, over(2, 3), impl.OK}, {impl.EpCarrier, impl.EpRing, over(3, 2), impl.OK},
		{0, 0, impl.Ratio{}, impl.ErrRange}, {1, 1, impl.Ratio{}, impl.ErrRange}, {2, 2, impl.Ratio{}, impl.ErrRange}, {3, 3, impl.Ratio{}, impl.ErrRange}, {-1, -1, impl.Ratio{}, impl.ErrRange},
		{0, 3, impl.Ratio{}, impl.ErrRange}, {3, 0, impl.Ratio{}, impl.ErrRange}, {-1, 2, impl.Ratio{}, impl.ErrRange}, {2, -1, impl.Ratio{}, impl.ErrRange}, {1 << 32, 1, impl.Ratio{}, impl.ErrRange}, {1, 1<<32 + 2, impl.Ratio{}, impl.ErrRange}, {least, greatest, impl.Ratio{}, impl.ErrRange}, {-1, 3, impl.Ratio{}, impl.ErrRange},
	} {
		if got, code := impl.EpiRatio(e, c.from, c.to); got != c.want || code != c.code {
			t.Errorf("EpiRatio(%v, %d, %d): got %v %d, want %v %d", e, c.from, c.to, got, code, c.want, c.code)
		}
	}
}

// expectTurns returns what EpiRatio should return for valid gears.
func expectTurns(e impl.Epi, from, to int64) (impl.Ratio, int64) {
	turns := map[[2]int64]*big.Rat{
		{0, 1}: big.NewRat(-e.Sun, e.Ring), {1, 0}: big.NewRat(-e.Ring, e.Sun), {0, 2}: big.NewRat(e.Sun, e.Sun+e.Ring), {2, 0}: big.NewRat(e.Sun+e.Ring, e.Sun), {1, 2}: big.NewRat(e.Ring, e.Sun+e.Ring), {2, 1}: big.NewRat(e.Sun+e.Ring, e.Ring),
	}[[2]int64{from, to}]
	if turns == nil {
		return impl.Ratio{}, impl.ErrRange
	}
	r, _ := exactly(turns)
	return r, impl.OK
}

func TestPromise7RatiosOfMembers(t *testing.T) {
	numbers := []int64{-2, -1, 0, 1, 2, 3, 4, 1 << 32, least, greatest}
	all := someGears()
	for _, from := range numbers {
		for _, to := range numbers {
			for _, e := range all {
				want, wantCode := expectTurns(e, from, to)
				if got, code := impl.EpiRatio(e, from, to); got != want || code != wantCode {
					t.Errorf("EpiRatio(%v, %d, %d): got %v %d, want %v %d", e, from, to, got, code, want, wantCode)
				}
			}
			for _, e := range notGears() {
				if got, code := impl.EpiRatio(e, from, to); got != (impl.Ratio{}) || code != impl.ErrInvalid {
					t.Errorf("EpiRatio(%v, %d, %d): got %v %d, want ErrInvalid", e, from, to, got, code)
				}
			}
		}
	}
}

type episCase struct {
	r                impl.Ratio
	low, high, count int64
	want             []impl.Epi
	code             int64
}

func checkEpis(t *testing.T, c episCase) {
	t.Helper()
	if got, code := impl.EpisFor(c.r, c.low, c.high, c.count); !slices.Equal(got, c.want) || code != c.code {
		t.Errorf("EpisFor(%v, %d, %d, %d): got %v %d, want %v %d", c.r, c.low, c.high, c.count, got, code, c.want, c.code)
	}
}

func TestPromise7EpisFor(t *testing.T) {
	one := []impl.Epi{gears(24, 12, 4)}
	for _, c := range []episCase{
		{over(1, 3), 12, 24, 4, one, impl.OK}, {over(1, 3), 13, 24, 4, nil, impl.OK}, {over(1, 3), 12, 23, 4, nil, impl.OK}, {over(1, 3), 12, 24, 5, nil, impl.OK}, {over(1, 3), 11, 26, 4, one, impl.OK}, {over(1, 3), 10, 25, 4, []impl.Epi{gears(20, 10, 4), gears(24, 12, 4)}, impl.OK},
		{over(1, 4), 12, 12, 4, []impl.Epi{gears(12, 12, 4)}, impl.OK}, {over(1, 4), 6, 6, 1, []impl.Epi{gears(6, 6, 1)}, impl.OK}, {over(1, 4), 80, 80, 8, nil, impl.OK}, {over(1, 4), 80, 80, 1, []impl.Epi{gears(80, 80, 1)}, impl.OK}, {over(1, 4), 81, 81, 1, nil, impl.OK}, {over(1, 4), 240, 240, 1, nil, impl.OK},
		{over(1, 41), 6, 240, 1, []impl.Epi{gears(6, 117, 1)}, impl.OK}, {over(19, 39), 6, 240, 1, []impl.Epi{gears(228, 6, 1)}, impl.OK}, {over(19, 39), 6, 240, 8, nil, impl.OK}, {over(19, 39), 6, 227, 1, nil, impl.OK}, {over(19, 39), 7, 240, 1, nil, impl.OK}, {over(19, 39), 6, 228, 2, []impl.Epi{gears(228, 6, 2)}, impl.OK},
		{over(1, 41), 7, 240, 1, nil, impl.OK}, {over(1, 41), 6, 116, 1, nil, impl.OK}, {over(1, 41), 6, 117, 2, []impl.Epi{gears(6, 117, 2)}, impl.OK}, {over(1, 41), 6, 117, 3, nil, impl.OK},
		// Ratios that are too great or too small, 0 or negative.
		{over(1, 2), 6, 240, 1, nil, impl.OK}, {over(1, 1), 6, 240, 1, nil, impl.OK}, {over(3, 1), 6, 240, 4, nil, impl.OK}, {over(most, 1), 6, 240, 1, nil, impl.OK}, {over(1, 42), 6, 240, 1, nil, impl.OK}, {over(1, most), 6, 240, 1, nil, impl.OK}, {over(20, 41), 6, 240, 1, nil, impl.OK},
		{over(0, 1), 6, 240, 1, nil, impl.OK}, {over(-1, 3), 6, 240, 4, nil, impl.OK}, {over(-1, 4), 6, 240, 1, nil, impl.OK}, {over(-most, 1), 6, 240, 1, nil, impl.OK}, {over(-1, most), 6, 240, 1, nil, impl.OK}, {over(most/3, most), 6, 240, 4, nil, impl.OK}, {over(most/3, most-1), 6, 240, 4, nil, impl.ErrInvalid},
		// As many as MaxEpis, and more.
		{over(1, 4), 6, 25, 1, twentyGears(), impl.OK}, {over(1, 4), 6, 26, 1, nil, impl.ErrFull}, {over(1, 4), 6, 240, 1, nil, impl.ErrFull}, {over(1, 3), 6, 240, 4, nil, impl.ErrFull},
	} {
		checkEpis(t, c)
	}
}

// twentyGears are as many gears with the ratio 1/4 as may be found.
func twentyGears() []impl.Epi {
	var list []impl.Epi
	for teeth := int64(6); teeth <= 25; teeth++ {
		list = append(list, impl.Epi{Sun: teeth, Ring: 3 * teeth, Planet: teeth, Count: 1})
	}
	return list
}

// expectEpis returns what EpisFor should return for gears out of all that are valid.
func expectEpis(all []impl.Epi, r impl.Ratio, low, high, count int64) episCase {
	c := episCase{r: r, low: low, high: high, count: count}
	for _, e := range all {
		if min(e.Sun, e.Planet) >= low && max(e.Sun, e.Planet) <= high && e.Sun*r.Den == r.Num*(e.Sun+e.Ring) {
			c.want = append(c.want, e)
		}
	}
	if len(c.want) > 20 {
		c.want, c.code = nil, impl.ErrFull
	}
	return c
}

// ratiosOf returns the ratios from the sun to the carrier of all gears, those of the most gears first.
func ratiosOf(all []impl.Epi) []impl.Ratio {
	gearsWith := map[impl.Ratio]int{}
	var list []impl.Ratio
	for _, e := range all {
		r, _ := expectTurns(e, impl.EpSun, impl.EpCarrier)
		if gearsWith[r] == 0 {
			list = append(list, r)
		}
		gearsWith[r]++
	}
	slices.SortStableFunc(list, func(a, b impl.Ratio) int { return gearsWith[b] - gearsWith[a] })
	return list
}

func TestPromise7GearsThatAreFoundHaveTheRatio(t *testing.T) {
	source := rand.New(rand.NewSource(74))
	for count := int64(1); count <= 8; count++ {
		all := allGears(count)
		ratios := ratiosOf(all)
		full, some := 0, 0
		for i := range 150 {
			r := ratios[i/3]
			if i >= 60 {
				r = ratios[source.Intn(len(ratios))]
			}
			low := 6 + source.Int63n(30)
			for _, c := range []episCase{expectEpis(all, r, 6, 240, count), expectEpis(all, r, low, low+source.Int63n(241-low), count)} {
				checkEpis(t, c)
				full += int(c.code) / impl.ErrFull
				some += min(1, len(c.want))
			}
		}
		if full < 3 || some < 80 {
			t.Errorf("with %d planets, only %d searches were full, and %d found gears", count, full, some)
		}
	}
}

func TestPromise7FoundGearsInEachRange(t *testing.T) {
	for count := int64(1); count <= 8; count++ {
		all := allGears(count)
		r := ratiosOf(all)[0]
		sizes := map[int]bool{}
		for high := int64(6); high <= 240; high++ {
			c := expectEpis(all, r, 6, high, count)
			checkEpis(t, c)
			if c.code == impl.ErrFull && sizes[20] {
				break
			}
			sizes[len(c.want)] = true
		}
		if !sizes[1] || !sizes[20] {
			t.Errorf("with %d planets, %v gears were found", count, sizes)
		}
	}
	small := allGears(2)
	for _, r := range ratiosOf(small)[:40] {
		for low := int64(6); low <= 30; low++ {
			for high := low; high <= 31; high++ {
				checkEpis(t, expectEpis(small, r, low, high, 2))
			}
		}
	}
}

func TestPromise7SearchesOutOfRange(t *testing.T) {
	for _, r := range []impl.Ratio{over(1, 3), over(1, 4), over(0, 1), over(-1, 3), over(most, 1), over(1, most)} {
		for _, c := range []episCase{
			{low: 5, high: 24, count: 4}, {low: 25, high: 24, count: 4}, {low: 7, high: 6, count: 4}, {low: 6, high: 5, count: 4}, {low: 12, high: 241, count: 4}, {low: 241, high: 241, count: 4}, {low: 241, high: 240, count: 4}, {low: 12, high: 24, count: 0}, {low: 12, high: 24, count: 9}, {low: 12, high: 24, count: -1},
			{low: 0, high: 24, count: 4}, {low: -12, high: 24, count: 4}, {low: least, high: greatest, count: 4}, {low: greatest, high: least, count: 4}, {low: 6, high: greatest, count: 1}, {low: least, high: 240, count: 1}, {low: 12, high: 24, count: least}, {low: 12, high: 24, count: greatest}, {low: 12, high: 24, count: 1<<32 + 4},
			{low: 5, high: 241, count: 1}, {low: 6, high: 241, count: 1}, {low: 5, high: 240, count: 1}, {low: 6, high: 240, count: 9}, {low: 5, high: 241, count: 0},
		} {
			c.r, c.code = r, impl.ErrRange
			checkEpis(t, c)
		}
	}
	for _, bad := range invalidRatios() {
		for _, c := range []episCase{{low: 12, high: 24, count: 4}, {low: 6, high: 240, count: 1}, {low: 5, high: 24, count: 4}, {low: 25, high: 24, count: 4}, {low: 12, high: 241, count: 4}, {low: 12, high: 24, count: 0}, {low: 12, high: 24, count: 9}, {low: greatest, high: least, count: least}} {
			c.r, c.code = bad, impl.ErrInvalid
			checkEpis(t, c)
		}
	}
}

func TestPromise7CageOf(t *testing.T) {
	var e impl.Epi
	checkSpeeds(t, "CageOf", 4,
		tooFine(e, over(most, 1), over(most, 1)), tooFine(e, over(-most, 1), over(-most, 1)), tooFine(e, over(most, 1), over(2, 1)), tooFine(e, over(most-1, 7), over(most-3, 7)),
		fits(e, over(1, 1), over(2, 1), over(3, 2)), fits(e, over(0, 1), over(0, 1), over(0, 1)), fits(e, over(1, 1), over(1, 1), over(1, 1)), fits(e, over(1, 1), over(-1, 1), over(0, 1)), fits(e, over(-1, 1), over(-2, 1), over(-3, 2)), fits(e, over(1, 3), over(1, 6), over(1, 4)),
		fits(e, over(most, 1), over(-most, 1), over(0, 1)), fits(e, over(most, 1), over(0, 1), over(most/2, 1)), fits(e, over(most/2, 1), over(most/2, 1), over(most/2, 1)), fits(e, over(most-1, 1), over(1, 1), over(most/2, 1)), tooFine(e, over(most, 1), over(1, 1)),
		fits(e, over(2, most-1), over(0, 1), over(1, most-1)), tooFine(e, over(1, most), over(0, 1)), tooFine(e, over(1, most-1), over(0, 1)), tooFine(e, over(1, most), over(1, most-1)), fits(e, over(1, most), over(1, most), over(1, most)),
	)
}

func TestPromise7SideOf(t *testing.T) {
	var e impl.Epi
	checkSpeeds(t, "SideOf", 5,
		tooFine(e, over(most, 1), over(most, 1)), tooFine(e, over(-most, 1), over(-most, 1)), tooFine(e, over(most/2+1, 1), over(2, 1)), tooFine(e, over(most/2+1, 1), over(most, 1)), tooFine(e, over(most-1, 7), over(most-1, 7)),
		fits(e, over(3, 2), over(1, 1), over(2, 1)), fits(e, over(3, 2), over(2, 1), over(1, 1)), fits(e, over(0, 1), over(0, 1), over(0, 1)), fits(e, over(0, 1), over(5, 3), over(-5, 3)), fits(e, over(1, 1), over(1, 1), over(1, 1)), fits(e, over(-1, 2), over(-1, 1), over(0, 1)), fits(e, over(1, 4), over(1, 3), over(1, 6)),
		fits(e, over(0, 1), over(most, 1), over(-most, 1)), fits(e, over(most/2, 1), over(0, 1), over(most, 1)), fits(e, over(-most/2, 1), over(0, 1), over(-most, 1)), fits(e, over(most/2, 1), over(most, 1), over(0, 1)), fits(e, over(1, most), over(1, most), over(1, most)), fits(e, over(1, most), over(0, 1), over(1, most/2)),
		tooFine(e, over(most/2, 1), over(-1, 1)), tooFine(e, over(-most/2, 1), over(1, 1)), tooFine(e, over(1, 1), over(-most, 1)), tooFine(e, over(most, 1), over(0, 1)), tooFine(e, over(1, most-1), over(1, most)), tooFine(e, over(most/2+1, 1), over(1, 1)),
	)
}

func TestPromise7SidesAreRestoredFromTheCage(t *testing.T) {
	restored := 0
	for _, a := range validRatios() {
		for _, b := range validRatios() {
			cage, code := impl.CageOf(a, b)
			if other, otherCode := impl.CageOf(b, a); other != cage || otherCode != code {
				t.Errorf("CageOf: got %v %d for %v and %v, but %v %d for them in reverse", cage, code, a, b, other, otherCode)
			}
			if code != impl.OK {
				continue
			}
			mean := new(big.Rat).Add(bigOf(a), bigOf(b))
			if mean.Mul(mean, big.NewRat(1, 2)).Cmp(bigOf(cage)) != 0 {
				t.Errorf("CageOf(%v, %v): got %v", a, b, cage)
			}
			if side, code := impl.SideOf(cage, a); code == impl.OK {
				restored++
				if side != b {
					t.Errorf("SideOf(%v, %v): got %v, but the cage is that of %v", cage, a, side, b)
				}
			}
		}
	}
	if restored < 1000 {
		t.Errorf("only %d sides were restored", restored)
	}
}

func TestPromise7EpiTexts(t *testing.T) {
	for text, e := range map[string]impl.Epi{"24 12 4": gears(24, 12, 4), "6 6 1": gears(6, 6, 1), "6 117 1": gears(6, 117, 1), "228 6 2": gears(228, 6, 2), "100 10 5": gears(100, 10, 5), "80 80 1": gears(80, 80, 1), "44 24 8": gears(44, 24, 8)} {
		if got := impl.EpiText(e); got != text {
			t.Errorf("EpiText(%v): got %q, want %q", e, got, text)
		}
		if got, ok := impl.ReadEpi(text); got != e || !ok {
			t.Errorf("ReadEpi(%q): got %v %t, want %v true", text, got, ok, e)
		}
	}
	for count := int64(1); count <= 8; count++ {
		for _, e := range allGears(count) {
			want := strconv.FormatInt(e.Sun, 10) + " " + strconv.FormatInt(e.Planet, 10) + " " + strconv.FormatInt(e.Count, 10)
			text := impl.EpiText(e)
			if got, ok := impl.ReadEpi(text); text != want || got != e || !ok {
				t.Errorf("EpiText(%v): got %q, want %q, and it is read as %v %t", e, text, want, got, ok)
			}
		}
	}
	for _, e := range notGears() {
		if got := impl.EpiText(e); got != "" {
			t.Errorf("EpiText(%v): got %q, but they are not valid", e, got)
		}
	}
}

// textsOfNoGears are texts of no planetary gears.
func textsOfNoGears() []string {
	return []string{
		"", " ", "  ", "-", "0", "24", "24 12", "24 12 4 1", "24 48 12 4", "24 12 4 ", " 24 12 4", "24  12 4", "24 12  4", "24 12 4  ", "  24 12 4", "24 12", "24 12 ", " 12 4", "24  4", "24124", "24 124", "2412 4", "24,12,4", "24:12:4", "24-12-4", "24 12:4",
		"+24 12 4", "24 +12 4", "24 12 +4", "-24 12 4", "24 -12 4", "24 12 -4", "-24 -12 -4", "- 12 4", "024 12 4", "24 012 4", "24 12 04", "0024 12 4", "24 12 4.0", "24 12 0x4", "0b11000 12 4", "2_4 12 4", "24 12 4e0", "24 12 a", "a b c", "24 12 4a", "six 12 4",
		"24\t12 4", "24 12\t4", "24\n12\n4", "24 12 4\n", "\n24 12 4", "24 12 4\r", "24\u00a012 4", "24 12\u20034", "\ufeff24 12 4", "24 12 4\x00", "\x00", "\xff", "24 12 \xff", "\xff 12 4", "٢٤ 12 4", "２４ 12 4", "24 12 ４",
		"5 12 1", "24 5 1", "6 118 1", "229 6 1", "241 6 1", "240 6 1", "24 12 0", "24 12 9", "24 12 5", "24 12 7", "0 12 4", "24 0 4", "0 0 0", "11 7 6", "6 24 3", "43 97 4", "7 48 5", "81 47 8", "1 1 1", "6 6 8",
		"999999999999999999 12 4", "24 999999999999999999 4", "24 12 999999999999999999", "999999999999999999 999999999999999999 999999999999999999", "-999999999999999999 -999999999999999999 1", "1000000000000000000 12 4", "9223372036854775807 9223372036854775807 1", "18446744073709551640 12 4", "24 18446744073709551628 4", "24 12 18446744073709551620", "4294967320 12 4", "24 4294967308 4", "24 12 4294967300", "280 12 4", "24 268 4", "24 12 260",
		strings.Repeat("9", 100000) + " 12 4", strings.Repeat("0", 100000) + "24 12 4", strings.Repeat("24 12 4 ", 20000), strings.Repeat(" ", 100000), "24 12 4" + strings.Repeat(" ", 100000), "24" + strings.Repeat(" ", 100000) + "12 4", strings.Repeat("-", 100000),
	}
}

func TestPromise7TextsOfNoGears(t *testing.T) {
	for _, s := range textsOfNoGears() {
		if got, ok := impl.ReadEpi(s); got != (impl.Epi{}) || ok {
			t.Errorf("ReadEpi(%.80q): got %v %t, want none", s, got, ok)
		}
	}
}

var epiPattern = regexp.MustCompile(`\A([1-9][0-9]{0,2}) ([1-9][0-9]{0,2}) ([1-8])\z`)

// checkReadEpi compares ReadEpi with a pattern, and returns whether there are gears with the text.
func checkReadEpi(t *testing.T, s string) bool {
	t.Helper()
	var want impl.Epi
	if parts := epiPattern.FindStringSubmatch(s); parts != nil {
		var numbers [3]int64
		for i := range numbers {
			numbers[i], _ = strconv.ParseInt(parts[i+1], 10, 64)
		}
		if e := gears(numbers[0], numbers[1], numbers[2]); expectFaults(e) == "" {
			want = e
		}
	}
	got, ok := impl.ReadEpi(s)
	if got != want || ok != (want != impl.Epi{}) {
		t.Errorf("ReadEpi(%q): got %v %t, want %v", s, got, ok, want)
	}
	return ok
}

func TestPromise7ReadEpiOfChangedTexts(t *testing.T) {
	for _, text := range []string{"24 12 4", "6 117 1", "228 6 2", "100 10 5"} {
		checkChanges(t, text, checkReadEpi)
	}
}

func TestPromise7ReadEpiOfRandomTexts(t *testing.T) {
	source := rand.New(rand.NewSource(75))
	parts := []string{"6", "12", "24", "48", "117", "228", "5", "241", "0", "1", "2", "4", "8", "-", "+", "\t", "-6", "06"}
	gaps := []string{" ", " ", " ", " ", " ", " ", " ", "  ", ""}
	read := 0
	for range 40000 {
		var text strings.Builder
		for range 2 + source.Intn(3) {
			if text.Len() > 0 || source.Intn(20) == 0 {
				text.WriteString(gaps[source.Intn(len(gaps))])
			}
			text.WriteString(parts[source.Intn(len(parts))])
		}
		if checkReadEpi(t, text.String()) {
			read++
		}
	}
	if read < 100 {
		t.Errorf("only %d of the texts were those of gears", read)
	}
}

func TestPromise1EpicyclicResultsAreNewAndEqual(t *testing.T) {
	for _, e := range append(someGears(), notGears()...) {
		words := impl.EpiFaults(e)
		clear(words[:cap(words)])
		checkFaults(t, e, expectFaults(e))
	}
	for _, c := range []episCase{{r: over(1, 4), low: 6, high: 25, count: 1}, {r: over(1, 3), low: 10, high: 25, count: 4}, {r: over(1, 41), low: 6, high: 240, count: 1}} {
		kept, code := impl.EpisFor(c.r, c.low, c.high, c.count)
		list, _ := impl.EpisFor(c.r, c.low, c.high, c.count)
		clear(list[:cap(list)])
		if again, againCode := impl.EpisFor(c.r, c.low, c.high, c.count); len(kept) == 0 || !slices.Equal(again, kept) || againCode != code {
			t.Errorf("EpisFor(%v, %d, %d, %d): got %v %d, but %v %d before", c.r, c.low, c.high, c.count, again, againCode, kept, code)
		}
	}
}

func TestPromise1EpicyclicGearsFromSeveralGoroutines(t *testing.T) {
	var all sync.WaitGroup
	for range 8 {
		all.Go(func() {
			for _, e := range append(someGears(), notGears()...) {
				checkFaults(t, e, expectFaults(e))
				want, wantCode := impl.Ratio{}, int64(impl.ErrInvalid)
				if expectFaults(e) == "" {
					want, wantCode = expectTurns(e, impl.EpRing, impl.EpCarrier)
				}
				if got, code := impl.EpiRatio(e, impl.EpRing, impl.EpCarrier); got != want || code != wantCode {
					t.Errorf("EpiRatio(%v, EpRing, EpCarrier): got %v %d, want %v %d", e, got, code, want, wantCode)
				}
			}
			checkEpis(t, episCase{r: over(1, 4), low: 6, high: 25, count: 1, want: twentyGears()})
		})
	}
	all.Wait()
}
