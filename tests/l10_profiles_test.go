package tests

import (
	"fmt"
	"math"
	"math/big"
	"math/rand"
	"slices"
	"sync"
	"testing"

	"loop.example/g00921/impl"
)

func angle(sin, cos, hyp int64) impl.Angle { return impl.Angle{Sin: sin, Cos: cos, Hyp: hyp} }

func profile(teeth, module, addendum int64, a impl.Angle) impl.Profile {
	return impl.Profile{Teeth: teeth, Module: module, Addendum: addendum, Angle: a}
}

func usual() impl.Angle { return angle(5, 12, 13) }

func exchanged(a impl.Angle) impl.Angle { return angle(a.Cos, a.Sin, a.Hyp) }

// ceilingOf returns the least integer that is not less than x.
func ceilingOf(x *big.Rat) int64 { return -floorOf(new(big.Rat).Neg(x)) }

func squared(n int64) *big.Int { return new(big.Int).Mul(big.NewInt(n), big.NewInt(n)) }

func isAngle(a impl.Angle) bool {
	for _, side := range []int64{a.Sin, a.Cos, a.Hyp} {
		if side < 1 || side > 1000 {
			return false
		}
	}
	return new(big.Int).Add(squared(a.Sin), squared(a.Cos)).Cmp(squared(a.Hyp)) == 0
}

func isProfile(p impl.Profile) bool {
	return p.Teeth >= 6 && p.Teeth <= 240 && p.Module >= 1 && p.Module <= 500 && p.Addendum >= 1 && p.Addendum <= 20 && isAngle(p.Angle)
}

// allAngles returns all valid angles, by trying the sine and the hypotenuse.
func allAngles() []impl.Angle {
	var list []impl.Angle
	for hyp := int64(1); hyp <= 1000; hyp++ {
		for sin := int64(1); sin < hyp; sin++ {
			cos := int64(math.Round(math.Sqrt(float64(hyp*hyp - sin*sin))))
			if cos*cos == hyp*hyp-sin*sin {
				list = append(list, angle(sin, cos, hyp))
			}
		}
	}
	return list
}

// someAngles are the least and the greatest angles in each sense, similar triangles, and ones with equal sides.
func someAngles() []impl.Angle {
	list := []impl.Angle{usual(), angle(3, 4, 5), angle(6, 8, 10), angle(600, 800, 1000), angle(280, 960, 1000), angle(352, 936, 1000), angle(43, 924, 925), angle(33, 544, 545), angle(31, 480, 481), angle(140, 975, 985), angle(7, 24, 25), angle(20, 21, 29), angle(8, 15, 17), angle(12, 35, 37), angle(12, 16, 20), angle(15, 36, 39), angle(696, 697, 985)}
	for _, a := range slices.Clone(list) {
		list = append(list, exchanged(a))
	}
	return list
}

// notAngles are angles with a side out of range, or with sides of no right triangle.
func notAngles() []impl.Angle {
	list := []impl.Angle{{}, angle(5, 12, 14), angle(0, 5, 5), angle(5, 0, 5), angle(5, 12, 0), angle(13, 12, 5), angle(5, 13, 12), angle(1, 1, 1), angle(1, 1, 2), angle(1000, 1000, 1000), angle(385, 924, 1001), angle(924, 385, 1001), angle(1001, 1, 1001), angle(-5, 12, 13), angle(5, -12, 13), angle(5, 12, -13), angle(-5, -12, -13), angle(1200, 1600, 2000),
		// With 64 bits, the squares of most of the following sides would fit each other.
		angle(1<<32, 5, 5), angle(5, 1<<32, 5), angle(1<<32, 1<<32, 1<<32), angle(1<<32, 1<<33, 1<<40), angle(least, least, least), angle(least, 5, 5), angle(7, least, 7), angle(1<<63-5, 12, 13), angle(5, 1<<63-12, 13), angle(5, 12, 1<<63-13), angle(-1<<63+5, 12, 13), angle(5, -1<<63+12, 13), angle(5, 12, -1<<63+13), angle(greatest, greatest, greatest), angle(1<<62+3, 1<<62+4, 1<<62+5), angle(1<<32+5, 1<<32+12, 1<<32+13),
		angle(3000000000, 4000000000, 5000000000), angle(5000000000, 12000000000, 13000000000),
	}
	for _, bad := range append(farNumbers(), -2, -1, 0, 1, 2, 999, 1000, 1001, 1002) {
		list = append(list, angle(bad, 12, 13), angle(5, bad, 13), angle(5, 12, bad), angle(bad, 800, 1000), angle(600, bad, 1000), angle(600, 800, bad), angle(bad, bad, bad), angle(bad, 0, bad), angle(0, bad, bad))
	}
	return slices.DeleteFunc(list, isAngle)
}

// badProfiles are profiles that are not valid for one reason, and some with several ones.
func badProfiles() []impl.Profile {
	list := []impl.Profile{{}, profile(5, 0, 0, impl.Angle{}), profile(241, 501, 21, angle(5, 12, 14)), profile(241, 500, 20, usual()), profile(5, 1, 1, usual())}
	for _, bad := range notToothCounts() {
		list = append(list, profile(bad, 10, 10, usual()))
	}
	for _, bad := range append(farNumbers(), -1, -10, 0, 501, 502, 1000) {
		list = append(list, profile(20, bad, 10, usual()))
	}
	for _, bad := range append(farNumbers(), -1, -10, 0, 21, 22, 200) {
		list = append(list, profile(20, 10, bad, usual()))
	}
	for _, bad := range notAngles() {
		list = append(list, profile(20, 10, 10, bad))
	}
	return list
}

// anyProfiles returns two valid profiles with the same module and angle.
func anyProfiles(angles []impl.Angle, source *rand.Rand) (impl.Profile, impl.Profile) {
	a := angles[source.Intn(len(angles))]
	module := []int64{1, 2, 3, 10, 99, 499, 500, 1 + source.Int63n(500)}[source.Intn(8)]
	teeth := []int64{6, 7, 239, 240, 6 + source.Int63n(20), 6 + source.Int63n(20), 6 + source.Int63n(235), 6 + source.Int63n(235)}
	addenda := []int64{1, 2, 19, 20, 10, 1 + source.Int63n(20), 1 + source.Int63n(20), 1 + source.Int63n(20)}
	return profile(teeth[source.Intn(8)], module, addenda[source.Intn(8)], a), profile(teeth[source.Intn(8)], module, addenda[source.Intn(8)], a)
}

func TestPromise10ValidAngle(t *testing.T) {
	if impl.MaxModule != 500 || impl.MaxAddendum != 20 || impl.MaxSide != 1000 {
		t.Errorf("limits: got %d, %d and %d, want 500, 20 and 1000", impl.MaxModule, impl.MaxAddendum, impl.MaxSide)
	}
	for _, a := range []impl.Angle{angle(3, 4, 5), angle(4, 3, 5), usual(), angle(12, 5, 13), angle(600, 800, 1000), angle(800, 600, 1000), angle(280, 960, 1000), angle(960, 280, 1000), angle(352, 936, 1000), angle(43, 924, 925), angle(924, 43, 925), angle(696, 697, 985), angle(975, 140, 985)} {
		if !impl.ValidAngle(a) {
			t.Errorf("ValidAngle(%v): got false, want true", a)
		}
		for _, other := range []impl.Angle{angle(a.Hyp, a.Cos, a.Sin), angle(a.Sin, a.Hyp, a.Cos), angle(a.Cos, a.Hyp, a.Sin), angle(a.Hyp, a.Sin, a.Cos), angle(-a.Sin, a.Cos, a.Hyp), angle(a.Sin, -a.Cos, a.Hyp), angle(a.Sin, a.Cos, -a.Hyp)} {
			if impl.ValidAngle(other) {
				t.Errorf("ValidAngle(%v): got true, want false", other)
			}
		}
	}
	for _, a := range notAngles() {
		if impl.ValidAngle(a) {
			t.Errorf("ValidAngle(%v): got true, want false", a)
		}
	}
}

func TestPromise10AllAngles(t *testing.T) {
	count := 0
	for sin := int64(0); sin <= 1001; sin++ {
		for cos := int64(0); cos <= 1001; cos++ {
			hyp := int64(math.Sqrt(float64(sin*sin + cos*cos)))
			for h := hyp - 1; h <= hyp+1; h++ {
				want := sin > 0 && cos > 0 && h <= 1000 && h > 0 && sin*sin+cos*cos == h*h
				if got := impl.ValidAngle(angle(sin, cos, h)); got != want {
					t.Fatalf("ValidAngle({%d %d %d}): got %t, want %t", sin, cos, h, got, want)
				}
				if want {
					count++
				}
			}
		}
	}
	if list := allAngles(); count != 1762 || len(list) != count {
		t.Errorf("got %d valid angles, and %d by trying, want 1762", count, len(list))
	}
}

func TestPromise10AnglesThatFailByOne(t *testing.T) {
	for _, a := range allAngles() {
		for _, by := range []int64{-1, 1} {
			for _, other := range []impl.Angle{angle(a.Sin+by, a.Cos, a.Hyp), angle(a.Sin, a.Cos+by, a.Hyp), angle(a.Sin, a.Cos, a.Hyp+by)} {
				if impl.ValidAngle(other) {
					t.Errorf("ValidAngle(%v): got true, want false", other)
				}
			}
		}
		if !impl.ValidAngle(a) || !impl.ValidAngle(exchanged(a)) || impl.ValidAngle(angle(a.Hyp, a.Cos, a.Sin)) || impl.ValidAngle(angle(a.Sin, a.Hyp, a.Cos)) {
			t.Errorf("sides of %v, exchanged: only the first two may be", a)
		}
	}
}

func TestPromise10ValidProfile(t *testing.T) {
	for _, n := range append(farNumbers(), -1, 0, 1, 2, 5, 6, 7, 10, 19, 20, 21, 22, 239, 240, 241, 242, 499, 500, 501, 502, 1000) {
		for _, p := range []impl.Profile{profile(n, 10, 10, usual()), profile(20, n, 10, usual()), profile(20, 10, n, usual()), profile(n, 500, 20, angle(600, 800, 1000)), profile(240, n, 20, angle(3, 4, 5)), profile(6, 1, n, angle(4, 3, 5)), profile(n, n, n, usual()), profile(20, 10, 10, angle(n, 12, 13)), profile(20, 10, 10, angle(5, n, 13)), profile(20, 10, 10, angle(5, 12, n))} {
			if got := impl.ValidProfile(p); got != isProfile(p) {
				t.Errorf("ValidProfile(%v): got %t, want %t", p, got, isProfile(p))
			}
		}
	}
	for _, p := range badProfiles() {
		if impl.ValidProfile(p) {
			t.Errorf("ValidProfile(%v): got true, want false", p)
		}
	}
	for _, a := range allAngles() {
		if !impl.ValidProfile(profile(20, 10, 10, a)) {
			t.Errorf("ValidProfile with %v: got false, want true", a)
		}
	}
}

func TestPromise10Diameters(t *testing.T) {
	for _, c := range []struct{ teeth, module, addendum, pitch, outside, root int64 }{
		{20, 10, 10, 2000, 2200, 1760}, {6, 1, 1, 60, 62, 54}, {6, 1, 20, 60, 100, 16}, {6, 500, 20, 30000, 50000, 8000}, {7, 3, 5, 210, 240, 168},
		{240, 1, 1, 2400, 2402, 2394}, {240, 500, 1, 1200000, 1201000, 1197000}, {240, 500, 20, 1200000, 1220000, 1178000},
	} {
		for _, a := range someAngles() {
			pitch, outside, root, code := impl.Diameters(profile(c.teeth, c.module, c.addendum, a))
			if pitch != c.pitch || outside != c.outside || root != c.root || code != impl.OK {
				t.Errorf("Diameters(%v): got %d %d %d, code %d", c, pitch, outside, root, code)
			}
		}
	}
	for teeth := int64(6); teeth <= 240; teeth++ {
		for addendum := int64(1); addendum <= 20; addendum++ {
			for _, module := range []int64{1, 2, 7, 499, 500} {
				pitch, outside, root, code := impl.Diameters(profile(teeth, module, addendum, usual()))
				if pitch != 10*teeth*module || outside != pitch+2*addendum*module || root != pitch-2*addendum*module-4*module || code != impl.OK || root < 16 {
					t.Errorf("diameters of %d teeth, module %d, addendum %d: got %d %d %d, code %d", teeth, module, addendum, pitch, outside, root, code)
				}
			}
		}
	}
}

// piRatios returns a ratio below pi and one above it, much nearer to it than those of the specification.
func piRatios() (*big.Rat, *big.Rat) {
	low, _ := new(big.Rat).SetString("3.1415926535897932384626433832795028841971")
	high, _ := new(big.Rat).SetString("3.1415926535897932384626433832795028841972")
	return low, high
}

func times(n int64, x *big.Rat) *big.Rat { return new(big.Rat).Mul(big.NewRat(n, 1), x) }

func expectPi(n int64) (int64, int64) {
	return floorOf(times(n, big.NewRat(103993, 33102))), ceilingOf(times(n, big.NewRat(104348, 33215)))
}

func TestPromise10PiBounds(t *testing.T) {
	for _, c := range []struct{ n, low, high int64 }{
		{0, 0, 0}, {1, 3, 4}, {2, 6, 7}, {7, 21, 22}, {100, 314, 315}, {113, 354, 355}, {10000, 31415, 31416},
		{33101, 103989, 103990}, {33102, 103993, 103994}, {33103, 103996, 103997}, {33214, 104344, 104345}, {33215, 104347, 104348}, {33216, 104351, 104352},
		{66203, 207982, 207983}, {66204, 207986, 207987}, {66205, 207989, 207990}, {66429, 208692, 208693}, {66430, 208695, 208696}, {66431, 208699, 208700},
		{999978317, 3141524533, 3141524535}, {999978318, 3141524537, 3141524538}, {999978319, 3141524540, 3141524542},
		{999970789, 3141500883, 3141500885}, {999970790, 3141500887, 3141500888}, {999970791, 3141500890, 3141500892},
		{999999999, 3141592649, 3141592651}, {1000000000, 3141592653, 3141592654},
	} {
		if low, high, code := impl.PiBounds(c.n); low != c.low || high != c.high || code != impl.OK {
			t.Errorf("PiBounds(%d): got %d and %d, code %d, want %d and %d", c.n, low, high, code, c.low, c.high)
		}
	}
	for _, n := range []int64{-1, -2, -33102, -100, -most, most + 1, most + 2, 2 * most, least, least + 1, greatest, greatest - 1, 1<<32 + 5, -1 << 32, 1 << 62} {
		if low, high, code := impl.PiBounds(n); low != 0 || high != 0 || code != impl.ErrRange {
			t.Errorf("PiBounds(%d): got %d and %d, code %d, want 0, 0 and ErrRange", n, low, high, code)
		}
	}
}

func TestPromise10PiBoundsEnclosePi(t *testing.T) {
	below, above := piRatios()
	numbers := []int64{most, most - 1, most - 2}
	for n := range int64(3000) {
		numbers = append(numbers, n)
	}
	for _, divisor := range []int64{33102, 33215, 113, 106} {
		for _, k := range []int64{1, 2, 3, 5, 100, 9999, most/divisor - 1, most / divisor} {
			numbers = append(numbers, k*divisor-1, k*divisor, min(k*divisor+1, most))
		}
	}
	source := rand.New(rand.NewSource(101))
	for range 4000 {
		numbers = append(numbers, source.Int63n(most+1)>>source.Intn(20))
	}
	for _, n := range numbers {
		low, high, code := impl.PiBounds(n)
		wantLow, wantHigh := expectPi(n)
		if low != wantLow || high != wantHigh || code != impl.OK {
			t.Errorf("PiBounds(%d): got %d and %d, code %d, want %d and %d", n, low, high, code, wantLow, wantHigh)
		}
		if big.NewRat(low, 1).Cmp(times(n, below)) > 0 || big.NewRat(high, 1).Cmp(times(n, above)) < 0 {
			t.Errorf("PiBounds(%d): %d and %d do not enclose it", n, low, high)
		}
	}
}

func TestPromise10ThicknessBounds(t *testing.T) {
	for _, c := range []struct{ module, backlash, low, high int64 }{
		{10, 0, 157, 158}, {10, 14, 150, 151}, {10, 15, 149, 150}, {10, 99, 107, 108}, {10, 100, 107, 108},
		{1, 0, 15, 16}, {1, 1, 15, 16}, {1, 9, 11, 12}, {1, 10, 10, 11}, {2, 0, 31, 32}, {2, 1, 30, 31}, {2, 20, 21, 22},
		{500, 0, 7853, 7854}, {500, 1, 7853, 7854}, {500, 4999, 5354, 5355}, {500, 5000, 5353, 5354},
	} {
		for _, teeth := range []int64{6, 20, 240} {
			for _, a := range []impl.Angle{usual(), angle(4, 3, 5), angle(600, 800, 1000)} {
				p := profile(teeth, c.module, 1+teeth%20, a)
				if low, high, code := impl.ThicknessBounds(p, c.backlash); low != c.low || high != c.high || code != impl.OK {
					t.Errorf("ThicknessBounds(%v, %d): got %d and %d, code %d, want %d and %d", p, c.backlash, low, high, code, c.low, c.high)
				}
			}
		}
	}
}

// A difference of the bound and the backlash is never negative, because 10 * Module * pi is greater than 10 * Module.
func TestPromise10ThicknessBoundsOfAllModules(t *testing.T) {
	below, above := piRatios()
	kinds := map[string]int{}
	for module := int64(1); module <= 500; module++ {
		lowPi, highPi := expectPi(10 * module)
		for _, backlash := range []int64{0, 1, 2, 3, module, 5*module + 1, 10*module - 1, 10 * module} {
			low, high, code := impl.ThicknessBounds(profile(20, module, 10, usual()), backlash)
			if low != floorOf(big.NewRat(lowPi-backlash, 2)) || high != ceilingOf(big.NewRat(highPi-backlash, 2)) || code != impl.OK || low < 1 {
				t.Errorf("thickness for module %d, backlash %d: got %d and %d, code %d", module, backlash, low, high, code)
			}
			if big.NewRat(2*low+backlash, 1).Cmp(times(10*module, below)) > 0 || big.NewRat(2*high+backlash, 1).Cmp(times(10*module, above)) < 0 {
				t.Errorf("thickness for module %d, backlash %d: %d and %d do not enclose it", module, backlash, low, high)
			}
			kinds[fmt.Sprint("low ", (lowPi-backlash)%2)]++
			kinds[fmt.Sprint("high ", (highPi-backlash)%2)]++
		}
	}
	for _, kind := range []string{"low 0", "low 1", "high 0", "high 1"} {
		if kinds[kind] < 100 {
			t.Errorf("only %d differences of the kind %s were tried", kinds[kind], kind)
		}
	}
}

func TestPromise10ErrorsOfThicknessesInTheirOrder(t *testing.T) {
	for _, module := range []int64{1, 10, 500} {
		p := profile(20, module, 10, usual())
		for _, bad := range append(farNumbers(), -1, -2, 10*module+1, 10*module+2, 100*module) {
			if low, high, code := impl.ThicknessBounds(p, bad); low != 0 || high != 0 || code != impl.ErrRange {
				t.Errorf("ThicknessBounds(%v, %d): got %d and %d, code %d, want ErrRange", p, bad, low, high, code)
			}
		}
	}
	for _, p := range badProfiles() {
		for _, backlash := range append(farNumbers(), -1, 0, 1, 10, 100, 101) {
			if low, high, code := impl.ThicknessBounds(p, backlash); low != 0 || high != 0 || code != impl.ErrInvalid {
				t.Errorf("ThicknessBounds(%v, %d): got %d and %d, code %d, want ErrInvalid", p, backlash, low, high, code)
			}
		}
	}
}

// isUndercut reports whether teeth are undercut by a rack.
func isUndercut(a impl.Angle, addendum, teeth int64) bool {
	return 10*teeth*a.Sin*a.Sin < 2*addendum*a.Hyp*a.Hyp
}

func TestPromise10LeastTeeth(t *testing.T) {
	for _, c := range []struct {
		a               impl.Angle
		addendum, teeth int64
	}{
		{usual(), 10, 14}, {usual(), 1, 6}, {usual(), 4, 6}, {usual(), 5, 7}, {usual(), 20, 28},
		// Exactly at the limit of undercut, and with one tenth less or more.
		{angle(3, 4, 5), 17, 10}, {angle(3, 4, 5), 18, 10}, {angle(3, 4, 5), 19, 11}, {angle(600, 800, 1000), 17, 10}, {angle(600, 800, 1000), 18, 10}, {angle(600, 800, 1000), 19, 11},
		// There, MinTeeth are more than needed.
		{angle(3, 4, 5), 1, 6}, {angle(3, 4, 5), 9, 6}, {angle(3, 4, 5), 10, 6}, {angle(3, 4, 5), 11, 7}, {angle(4, 3, 5), 16, 6}, {angle(4, 3, 5), 19, 6}, {angle(4, 3, 5), 20, 7}, {angle(924, 43, 925), 20, 6},
		{angle(23, 264, 265), 9, 239}, {angle(69, 792, 795), 9, 239}, {angle(52, 675, 677), 7, 238}, {angle(43, 924, 925), 2, 186}, {angle(31, 480, 481), 4, 193},
	} {
		if teeth, code := impl.LeastTeeth(c.a, c.addendum); teeth != c.teeth || code != impl.OK {
			t.Errorf("LeastTeeth(%v, %d): got %d, code %d, want %d", c.a, c.addendum, teeth, code, c.teeth)
		}
	}
	// The first two would need MaxTeeth + 1; there is no angle that needs MaxTeeth.
	for _, c := range []struct {
		a        impl.Angle
		addendum int64
	}{{angle(31, 480, 481), 5}, {angle(62, 960, 962), 5}, {angle(40, 399, 401), 12}, {angle(23, 264, 265), 10}, {angle(33, 544, 545), 10}, {angle(43, 924, 925), 3}, {angle(43, 924, 925), 20}} {
		if teeth, code := impl.LeastTeeth(c.a, c.addendum); teeth != 0 || code != impl.ErrNotFound {
			t.Errorf("LeastTeeth(%v, %d): got %d, code %d, want ErrNotFound", c.a, c.addendum, teeth, code)
		}
	}
}

func TestPromise10LeastTeethOfAllAngles(t *testing.T) {
	exact, greatestFound := 0, int64(0)
	for _, a := range allAngles() {
		for addendum := int64(1); addendum <= 20; addendum++ {
			want := int64(6)
			for want <= 240 && isUndercut(a, addendum, want) {
				want++
			}
			teeth, code := impl.LeastTeeth(a, addendum)
			if want > 240 {
				if teeth != 0 || code != impl.ErrNotFound {
					t.Errorf("LeastTeeth(%v, %d): got %d, code %d, want ErrNotFound", a, addendum, teeth, code)
				}
				continue
			}
			if teeth != want || code != impl.OK {
				t.Errorf("LeastTeeth(%v, %d): got %d, code %d, want %d", a, addendum, teeth, code, want)
			}
			if 10*want*a.Sin*a.Sin == 2*addendum*a.Hyp*a.Hyp {
				exact++
			}
			greatestFound = max(greatestFound, want)
		}
	}
	if exact < 100 || greatestFound != 239 {
		t.Errorf("%d times exactly at the limit, at most %d teeth", exact, greatestFound)
	}
}

func TestPromise10ErrorsOfLeastTeethInTheirOrder(t *testing.T) {
	for _, a := range someAngles() {
		for _, bad := range append(farNumbers(), -20, -2, -1, 0, 21, 22, 240) {
			if teeth, code := impl.LeastTeeth(a, bad); teeth != 0 || code != impl.ErrRange {
				t.Errorf("LeastTeeth(%v, %d): got %d, code %d, want ErrRange", a, bad, teeth, code)
			}
		}
	}
	for _, a := range notAngles() {
		for _, addendum := range append(farNumbers(), -1, 0, 1, 10, 20, 21) {
			if teeth, code := impl.LeastTeeth(a, addendum); teeth != 0 || code != impl.ErrInvalid {
				t.Errorf("LeastTeeth(%v, %d): got %d, code %d, want ErrInvalid", a, addendum, teeth, code)
			}
		}
	}
}

// limitSign is positive if the first profile reaches beyond the limit at which it and another one interfere, and 0 if it reaches just to it.
func limitSign(p, other impl.Profile) int {
	pitch := 10 * p.Teeth * p.Module
	outside := pitch + 2*p.Addendum*p.Module
	sum := pitch + 10*other.Teeth*other.Module
	return squared(outside * p.Angle.Hyp).Cmp(new(big.Int).Add(squared(pitch*p.Angle.Cos), squared(sum*p.Angle.Sin)))
}

func expectInterference(a, b impl.Profile) bool { return limitSign(a, b) > 0 || limitSign(b, a) > 0 }

func checkInterferes(t *testing.T, a, b impl.Profile, want bool) {
	t.Helper()
	if got, code := impl.Interferes(a, b); got != want || code != impl.OK {
		t.Errorf("Interferes(%v, %v): got %t, code %d, want %t", a, b, got, code, want)
	}
	if got, code := impl.Interferes(b, a); got != want || code != impl.OK {
		t.Errorf("Interferes(%v, %v): got %t, code %d, want %t", b, a, got, code, want)
	}
}

// limitCase is a profile that reaches just to the limit with another one of a number of teeth.
type limitCase struct {
	a               impl.Angle
	teeth, addendum int64
	others          int64
}

func limitCases() []limitCase {
	return []limitCase{
		{angle(3, 4, 5), 7, 18, 8}, {angle(3, 4, 5), 9, 15, 7}, {angle(3, 4, 5), 25, 20, 10}, {angle(3, 4, 5), 68, 13, 7}, {angle(4, 3, 5), 22, 20, 6}, {angle(6, 8, 10), 55, 17, 9},
		{angle(7, 24, 25), 7, 7, 11}, {angle(7, 24, 25), 34, 3, 7}, {angle(7, 24, 25), 225, 4, 10}, {angle(7, 24, 25), 204, 18, 42}, {angle(8, 15, 17), 102, 20, 17}, {angle(13, 84, 85), 104, 13, 81},
		{angle(280, 960, 1000), 7, 7, 11}, {angle(280, 960, 1000), 204, 18, 42}, {angle(280, 960, 1000), 225, 4, 10}, {angle(600, 800, 1000), 68, 13, 7}, {angle(800, 600, 1000), 22, 20, 6},
	}
}

func TestPromise10InterferenceExactlyAtTheLimit(t *testing.T) {
	for _, c := range limitCases() {
		for _, module := range []int64{1, 10, 499, 500} {
			p := profile(c.teeth, module, c.addendum, c.a)
			other := profile(c.others, module, 1, c.a)
			if limitSign(p, other) != 0 || limitSign(other, p) >= 0 {
				t.Errorf("%v: not the limit of the first profile alone", c)
			}
			checkInterferes(t, p, other, false)
			fewer, longer := other, p
			fewer.Teeth--
			longer.Addendum++
			if isProfile(fewer) {
				checkInterferes(t, p, fewer, true)
			}
			if isProfile(longer) {
				checkInterferes(t, longer, other, true)
			}
			shorter, more := p, other
			shorter.Addendum--
			more.Teeth++
			checkInterferes(t, shorter, other, false)
			checkInterferes(t, p, more, false)
		}
	}
}

func TestPromise10AllLimitsOfInterference(t *testing.T) {
	tried := 0
	for _, a := range allAngles() {
		for teeth := int64(6); teeth <= 240; teeth++ {
			for addendum := int64(1); addendum <= 20; addendum++ {
				rest := (5*teeth+addendum)*(5*teeth+addendum)*a.Hyp*a.Hyp - 25*teeth*teeth*a.Cos*a.Cos
				if rest%(25*a.Sin*a.Sin) != 0 {
					continue
				}
				others := int64(math.Round(math.Sqrt(float64(rest/(25*a.Sin*a.Sin))))) - teeth
				p, other := profile(teeth, 500, addendum, a), profile(others, 500, 1, a)
				if !isProfile(other) || limitSign(p, other) != 0 {
					continue
				}
				tried++
				checkInterferes(t, p, other, limitSign(other, p) > 0)
				other.Teeth--
				if isProfile(other) {
					checkInterferes(t, p, other, true)
				}
			}
		}
	}
	if tried != 2415 {
		t.Errorf("%d limits were tried, want 2415", tried)
	}
}

func TestPromise10Interferes(t *testing.T) {
	for _, c := range []struct {
		a, b impl.Profile
		want bool
	}{
		{profile(20, 10, 10, usual()), profile(20, 10, 10, usual()), false},
		{profile(6, 10, 10, usual()), profile(240, 10, 10, usual()), true},
		{profile(6, 1, 20, angle(3, 4, 5)), profile(6, 1, 20, angle(3, 4, 5)), true},
		{profile(6, 1, 1, angle(3, 4, 5)), profile(6, 1, 20, angle(3, 4, 5)), true},
		{profile(6, 1, 1, angle(3, 4, 5)), profile(6, 1, 1, angle(3, 4, 5)), false},
		{profile(6, 1, 20, angle(924, 43, 925)), profile(240, 1, 20, angle(924, 43, 925)), false},
		{profile(6, 1, 1, angle(43, 924, 925)), profile(6, 1, 1, angle(43, 924, 925)), true},
		// The greatest products, of the sum of both pitch diameters and of the sine.
		{profile(240, 500, 20, angle(960, 280, 1000)), profile(240, 500, 20, angle(960, 280, 1000)), false},
		{profile(240, 500, 20, angle(280, 960, 1000)), profile(240, 500, 20, angle(280, 960, 1000)), false},
		{profile(240, 500, 20, angle(975, 140, 985)), profile(240, 500, 20, angle(975, 140, 985)), false},
		{profile(240, 500, 20, angle(280, 960, 1000)), profile(6, 500, 1, angle(280, 960, 1000)), true},
		{profile(240, 500, 1, angle(280, 960, 1000)), profile(6, 500, 1, angle(280, 960, 1000)), false},
	} {
		checkInterferes(t, c.a, c.b, c.want)
	}
}

func TestPromise10InterferenceOfManyProfiles(t *testing.T) {
	source := rand.New(rand.NewSource(102))
	angles, kinds := append(allAngles(), slices.Repeat(someAngles(), 50)...), map[string]int{}
	for range 40000 {
		a, b := anyProfiles(angles, source)
		first, second := limitSign(a, b) > 0, limitSign(b, a) > 0
		kinds[fmt.Sprint(first, second)]++
		checkInterferes(t, a, b, first || second)
	}
	for _, kind := range []string{"true true", "true false", "false true", "false false"} {
		if kinds[kind] < 1000 {
			t.Errorf("the kind %s was tried only %d times", kind, kinds[kind])
		}
	}
}

// flankSquare returns the number whose square root is U or V of a contact ratio.
func flankSquare(p impl.Profile) *big.Int {
	pitch := 10 * p.Teeth * p.Module
	return new(big.Int).Sub(squared((pitch+2*p.Addendum*p.Module)*p.Angle.Hyp), squared(pitch*p.Angle.Cos))
}

func isSquare(n *big.Int) bool {
	root := new(big.Int).Sqrt(n)
	return root.Mul(root, root).Cmp(n) == 0
}

// rootsOf returns the square root of n, rounded down and up.
func rootsOf(n *big.Int) (int64, int64) {
	down := new(big.Int).Sqrt(n).Int64()
	if isSquare(n) {
		return down, down
	}
	return down, down + 1
}

func expectContact(a, b impl.Profile) (int64, int64) {
	lowA, highA := rootsOf(flankSquare(a))
	lowB, highB := rootsOf(flankSquare(b))
	line := 10 * a.Module * (a.Teeth + b.Teeth) * a.Angle.Sin
	part := big.NewRat(1000, 20*a.Module*a.Angle.Cos)
	low := times(lowA+lowB-line, part)
	high := times(highA+highB-line, part)
	return floorOf(low.Quo(low, big.NewRat(104348, 33215))), ceilingOf(high.Quo(high, big.NewRat(103993, 33102)))
}

// areEnclosing reports whether the true contact ratio is between bounds, computed with 400 bits.
func areEnclosing(a, b impl.Profile, low, high int64) bool {
	below, above := piRatios()
	number := func() *big.Float { return new(big.Float).SetPrec(400) }
	way := number().Sqrt(number().SetInt(flankSquare(a)))
	way.Add(way, number().Sqrt(number().SetInt(flankSquare(b))))
	way.Sub(way, number().SetInt64(10*a.Module*(a.Teeth+b.Teeth)*a.Angle.Sin))
	way.Mul(way, number().SetInt64(1000))
	// The ratio is at least low if way is at least low times the divisor, and so is that of high.
	divisor := 20 * a.Module * a.Angle.Cos
	return way.Cmp(number().SetRat(times(low*divisor, above))) >= 0 && way.Cmp(number().SetRat(times(high*divisor, below))) <= 0
}

func checkContact(t *testing.T, a, b impl.Profile, wantLow, wantHigh int64) {
	t.Helper()
	for range 2 {
		low, high, code := impl.ContactBounds(a, b)
		if low != wantLow || high != wantHigh || code != impl.OK {
			t.Errorf("ContactBounds(%v, %v): got %d and %d, code %d, want %d and %d", a, b, low, high, code, wantLow, wantHigh)
		}
		if !areEnclosing(a, b, low, high) {
			t.Errorf("ContactBounds(%v, %v): %d and %d do not enclose it", a, b, low, high)
		}
		a, b = b, a
	}
}

func TestPromise10ContactBounds(t *testing.T) {
	for _, c := range []struct {
		a, b      impl.Profile
		low, high int64
	}{
		{profile(20, 10, 10, usual()), profile(20, 10, 10, usual()), 1473, 1474},
		{profile(6, 1, 1, usual()), profile(6, 1, 1, usual()), 164, 168},
		{profile(240, 500, 20, usual()), profile(240, 500, 20, usual()), 3431, 3432},
		{profile(240, 500, 20, angle(600, 800, 1000)), profile(240, 500, 20, angle(600, 800, 1000)), 2615, 2616},
		{profile(240, 500, 20, angle(352, 936, 1000)), profile(240, 500, 20, angle(352, 936, 1000)), 3663, 3664},
		{profile(240, 500, 20, angle(936, 352, 1000)), profile(240, 500, 20, angle(936, 352, 1000)), 3860, 3861},
		{profile(240, 500, 20, angle(960, 280, 1000)), profile(240, 500, 20, angle(960, 280, 1000)), 4733, 4734},
		{profile(6, 1, 1, angle(960, 280, 1000)), profile(6, 1, 1, angle(960, 280, 1000)), 236, 237},
		{profile(6, 1, 1, angle(3, 4, 5)), profile(6, 1, 1, angle(3, 4, 5)), 127, 136},
		{profile(7, 1, 18, angle(3, 4, 5)), profile(8, 1, 1, angle(3, 4, 5)), 1018, 1023},
		{profile(7, 1, 18, angle(3, 4, 5)), profile(8, 1, 18, angle(3, 4, 5)), 1921, 1926},
		{profile(7, 1, 7, angle(7, 24, 25)), profile(11, 1, 7, angle(7, 24, 25)), 1076, 1078},
	} {
		checkContact(t, c.a, c.b, c.low, c.high)
	}
}

// With the other ratio beside pi, the lower bound of the first five cases would be greater by one, and the upper one of the next four would be less by one; with the right one, a bound of the last four is an integer before it is rounded.
func TestPromise10ContactBoundsWithTheRatiosBesidePi(t *testing.T) {
	for _, c := range []struct {
		a                               impl.Angle
		module                          int64
		teeth, addendum, others, second int64
		low, high                       int64
	}{
		{usual(), 75, 6, 3, 193, 19, 1838, 1840}, {usual(), 75, 6, 5, 122, 18, 1838, 1840}, {angle(3, 4, 5), 225, 6, 13, 56, 18, 1838, 1840}, {angle(8, 15, 17), 180, 38, 4, 6, 5, 612, 614}, {angle(280, 960, 1000), 225, 204, 12, 177, 16, 3064, 3066},
		{angle(352, 936, 1000), 350, 29, 2, 7, 16, 1094, 1096}, {angle(352, 936, 1000), 350, 105, 1, 157, 15, 1459, 1461}, {angle(720, 650, 970), 365, 16, 2, 21, 5, 440, 442}, {angle(720, 650, 970), 365, 111, 2, 240, 6, 510, 512},
		{usual(), 75, 7, 10, 76, 15, 1838, 1839}, {angle(8, 15, 17), 180, 8, 9, 189, 9, 1225, 1226}, {angle(352, 936, 1000), 350, 224, 7, 146, 17, 2190, 2191}, {angle(720, 650, 970), 365, 65, 2, 9, 3, 315, 316},
	} {
		a, b := profile(c.teeth, c.module, c.addendum, c.a), profile(c.others, c.module, c.second, c.a)
		if low, high := expectContact(a, b); low != c.low || high != c.high {
			t.Errorf("bounds for %v and %v: expected %d and %d, want %d and %d", a, b, low, high, c.low, c.high)
		}
		checkContact(t, a, b, c.low, c.high)
	}
}

func TestPromise10ContactBoundsOfManyProfiles(t *testing.T) {
	source := rand.New(rand.NewSource(103))
	angles, kinds := append(allAngles(), slices.Repeat(someAngles(), 50)...), map[string]int{}
	for range 6000 {
		a, b := anyProfiles(angles, source)
		low, high := expectContact(a, b)
		checkContact(t, a, b, low, high)
		kinds[fmt.Sprint(isSquare(flankSquare(a)), isSquare(flankSquare(b)))]++
	}
	if kinds["false false"] < 1000 || kinds["true false"]+kinds["false true"] < 20 {
		t.Errorf("kinds of roots that were tried: %v", kinds)
	}
}

// With whole roots, nothing but the ratios beside pi and the last rounding makes a difference.
func TestPromise10ContactBoundsWithWholeRoots(t *testing.T) {
	tried := 0
	for _, a := range someAngles() {
		var whole []impl.Profile
		for teeth := int64(6); teeth <= 240; teeth++ {
			for addendum := int64(1); addendum <= 20; addendum++ {
				if p := profile(teeth, 3, addendum, a); isSquare(flankSquare(p)) {
					whole = append(whole, p)
				}
			}
		}
		for i, p := range whole {
			for _, other := range whole[max(i-4, 0) : i+1] {
				low, high := expectContact(p, other)
				checkContact(t, p, other, low, high)
				other.Addendum = 1 + other.Addendum%20
				low, high = expectContact(p, other)
				checkContact(t, p, other, low, high)
				tried++
			}
		}
	}
	if tried < 500 {
		t.Errorf("only %d pairs with whole roots were tried", tried)
	}
}

// No lower bound is negative: U is greater than P * Sin, as O is greater than P, so that it is still not less than this integer when it is rounded down.
func TestPromise10ContactBoundsAreNotNegative(t *testing.T) {
	for _, a := range allAngles() {
		for _, p := range []impl.Profile{profile(6, 1, 1, a), profile(240, 1, 1, a), profile(6, 500, 1, a), profile(240, 500, 1, a), profile(6, 1, 20, a), profile(240, 500, 20, a)} {
			other := p
			other.Teeth, other.Addendum = 246-p.Teeth, 1
			low, high := expectContact(p, other)
			checkContact(t, p, other, low, high)
			if low < 0 || high <= low {
				t.Errorf("ContactBounds(%v, %v): got %d and %d, want an increasing pair that is not negative", p, other, low, high)
			}
		}
	}
}

// expectAddendum returns the greatest addendum with which profiles do not interfere; 0 if there is none.
func expectAddendum(a, b impl.Profile) int64 {
	for addendum := int64(20); addendum >= 1; addendum-- {
		a.Addendum, b.Addendum = addendum, addendum
		if !expectInterference(a, b) {
			return addendum
		}
	}
	return 0
}

func checkAddendum(t *testing.T, a, b impl.Profile, want int64) {
	t.Helper()
	code := int64(impl.OK)
	if want == 0 {
		code = impl.ErrNotFound
	}
	for range 2 {
		if got, gotCode := impl.GreatestAddendum(a, b); got != want || gotCode != code {
			t.Errorf("GreatestAddendum(%v, %v): got %d, code %d, want %d, code %d", a, b, got, gotCode, want, code)
		}
		a, b = b, a
	}
}

func TestPromise10GreatestAddendum(t *testing.T) {
	for _, c := range []struct {
		a                 impl.Angle
		teeth, others     int64
		greatestOfAddenda int64
	}{
		{angle(33, 544, 545), 40, 40, 1}, {angle(31, 480, 481), 40, 40, 1}, {angle(7, 24, 25), 6, 10, 2}, {angle(7, 24, 25), 6, 6, 3}, {usual(), 6, 20, 4}, {usual(), 10, 10, 10}, {usual(), 12, 20, 10},
		{angle(3, 4, 5), 6, 6, 13}, {angle(3, 4, 5), 10, 100, 18}, {angle(3, 4, 5), 10, 40, 19}, {angle(4, 3, 5), 6, 40, 19}, {angle(3, 4, 5), 10, 10, 20}, {angle(3, 4, 5), 10, 20, 20},
		{angle(33, 544, 545), 6, 6, 0}, {angle(33, 544, 545), 6, 20, 0}, {angle(43, 924, 925), 6, 240, 0},
	} {
		for _, module := range []int64{1, 3, 500} {
			// The own addenda do not matter, whether they interfere or not.
			for _, own := range [][2]int64{{1, 1}, {20, 20}, {1, 20}, {20, 1}, {10, 10}, {13, 2}} {
				checkAddendum(t, profile(c.teeth, module, own[0], c.a), profile(c.others, module, own[1], c.a), c.greatestOfAddenda)
			}
		}
	}
}

func TestPromise10GreatestAddendaDoNotInterfere(t *testing.T) {
	source := rand.New(rand.NewSource(104))
	angles, kinds := append(allAngles(), slices.Repeat(someAngles(), 50)...), map[string]int{}
	for range 8000 {
		a, b := anyProfiles(angles, source)
		want := expectAddendum(a, b)
		checkAddendum(t, a, b, want)
		if want == 0 || want == 1 || want == 20 {
			kinds[fmt.Sprint(want)]++
		}
		if own, _ := impl.Interferes(a, b); own && want > 0 {
			kinds["own addenda interfere"]++
		} else if !own && want == 0 {
			kinds["own addenda do not interfere"]++
		}
		for _, addendum := range []int64{want, want + 1} {
			a.Addendum, b.Addendum = addendum, addendum
			if isProfile(a) {
				checkInterferes(t, a, b, addendum > want)
			}
		}
	}
	for _, kind := range []string{"0", "1", "20", "own addenda interfere"} {
		if kinds[kind] < 20 {
			t.Errorf("kinds that were tried: %v", kinds)
		}
	}
	if kinds["own addenda do not interfere"] > 0 {
		t.Errorf("there are profiles that do not interfere, but have no greatest addendum: %v", kinds)
	}
}

// twoProfiles is a function of two profiles; its results are those in front of the code.
type twoProfiles struct {
	name string
	call func(a, b impl.Profile) (results [2]int64, code int64)
}

func functionsOfTwo() []twoProfiles {
	return []twoProfiles{
		{"Interferes", func(a, b impl.Profile) ([2]int64, int64) {
			yes, code := impl.Interferes(a, b)
			if yes {
				return [2]int64{1, 0}, code
			}
			return [2]int64{}, code
		}},
		{"ContactBounds", func(a, b impl.Profile) ([2]int64, int64) {
			low, high, code := impl.ContactBounds(a, b)
			return [2]int64{low, high}, code
		}},
		{"GreatestAddendum", func(a, b impl.Profile) ([2]int64, int64) {
			addendum, code := impl.GreatestAddendum(a, b)
			return [2]int64{addendum, 0}, code
		}},
	}
}

func checkErrorOfTwo(t *testing.T, a, b impl.Profile, want int64) {
	t.Helper()
	for _, f := range functionsOfTwo() {
		for range 2 {
			if results, code := f.call(a, b); results != [2]int64{} || code != want {
				t.Errorf("%s(%v, %v): got %v, code %d, want code %d", f.name, a, b, results, code, want)
			}
			a, b = b, a
		}
	}
}

func TestPromise10ProfilesThatDoNotFit(t *testing.T) {
	p := profile(6, 10, 20, usual())
	for _, module := range []int64{1, 9, 11, 500} {
		checkErrorOfTwo(t, p, profile(6, module, 20, usual()), impl.ErrState)
		checkErrorOfTwo(t, profile(240, 10, 1, usual()), profile(6, module, 20, angle(12, 5, 13)), impl.ErrState)
	}
	// Two of three sides of valid angles differ, or all of them, but never one alone.
	for _, pair := range [][2]impl.Angle{
		{usual(), angle(12, 5, 13)}, {angle(3, 4, 5), angle(4, 3, 5)}, {angle(3, 4, 5), angle(6, 8, 10)}, {angle(3, 4, 5), angle(600, 800, 1000)}, {usual(), angle(10, 24, 26)}, {usual(), angle(50, 120, 130)},
		{angle(12, 5, 13), angle(12, 35, 37)}, {angle(12, 5, 13), angle(12, 9, 15)}, {usual(), angle(9, 12, 15)}, {usual(), angle(35, 12, 37)}, {angle(7, 24, 25), angle(15, 20, 25)}, {angle(33, 56, 65), angle(16, 63, 65)},
		// Taken alone, none of these angles allows these teeth any addendum.
		{angle(33, 544, 545), angle(31, 480, 481)}, {angle(31, 480, 481), angle(62, 960, 962)},
	} {
		checkErrorOfTwo(t, profile(20, 10, 10, pair[0]), profile(20, 10, 10, pair[1]), impl.ErrState)
		checkErrorOfTwo(t, profile(6, 10, 20, pair[0]), profile(240, 10, 1, pair[1]), impl.ErrState)
		checkErrorOfTwo(t, profile(6, 10, 20, pair[0]), profile(240, 11, 1, pair[1]), impl.ErrState)
	}
	// Other numbers of teeth and addenda are no difference.
	for _, f := range functionsOfTwo() {
		for _, other := range []impl.Profile{profile(30, 10, 2, usual()), profile(240, 10, 20, usual()), profile(7, 10, 1, usual())} {
			if _, code := f.call(profile(20, 10, 10, usual()), other); code != impl.OK {
				t.Errorf("%s with %v: got code %d, want OK", f.name, other, code)
			}
		}
	}
}

func TestPromise10ErrorsOfTwoProfilesInTheirOrder(t *testing.T) {
	for _, bad := range badProfiles() {
		// Some of them also differ in their modules and angles.
		for _, good := range []impl.Profile{profile(20, 10, 10, usual()), profile(20, 500, 10, usual()), profile(6, 10, 20, angle(33, 544, 545)), profile(20, 10, 10, angle(12, 5, 13))} {
			checkErrorOfTwo(t, good, bad, impl.ErrInvalid)
		}
		checkErrorOfTwo(t, bad, bad, impl.ErrInvalid)
		checkErrorOfTwo(t, bad, impl.Profile{}, impl.ErrInvalid)
		if pitch, outside, root, code := impl.Diameters(bad); pitch != 0 || outside != 0 || root != 0 || code != impl.ErrInvalid {
			t.Errorf("Diameters(%v): got %d %d %d, code %d, want ErrInvalid", bad, pitch, outside, root, code)
		}
	}
	// Their angle allows no addendum, but their modules differ.
	a, b := profile(6, 10, 20, angle(33, 544, 545)), profile(6, 11, 20, angle(33, 544, 545))
	checkErrorOfTwo(t, a, b, impl.ErrState)
	b.Module = 10
	checkAddendum(t, a, b, 0)
}

func TestPromise10AnglesThatDifferInOneSide(t *testing.T) {
	for _, by := range []int64{-1, 1} {
		for _, other := range []impl.Angle{angle(5+by, 12, 13), angle(5, 12+by, 13), angle(5, 12, 13+by)} {
			checkErrorOfTwo(t, profile(20, 10, 10, usual()), profile(20, 10, 10, other), impl.ErrInvalid)
			checkErrorOfTwo(t, profile(20, 10, 10, usual()), profile(20, 11, 10, other), impl.ErrInvalid)
		}
	}
}

func TestPromise10SimilarProfilesInterfereAlike(t *testing.T) {
	source := rand.New(rand.NewSource(105))
	for range 3000 {
		a, b := anyProfiles([]impl.Angle{usual(), angle(3, 4, 5), angle(7, 24, 25), angle(4, 3, 5)}, source)
		want, _ := impl.Interferes(a, b)
		greatest, code := impl.GreatestAddendum(a, b)
		times, module := 1+source.Int63n(40), 1+source.Int63n(500)
		for _, p := range []*impl.Profile{&a, &b} {
			p.Angle, p.Module = angle(p.Angle.Sin*times, p.Angle.Cos*times, p.Angle.Hyp*times), module
		}
		if got, _ := impl.Interferes(a, b); got != want {
			t.Errorf("Interferes(%v, %v): got %t, but %t with another module", a, b, got, want)
		}
		if got, gotCode := impl.GreatestAddendum(a, b); got != greatest || gotCode != code {
			t.Errorf("GreatestAddendum(%v, %v): got %d, code %d, but %d, code %d with another module", a, b, got, gotCode, greatest, code)
		}
	}
}

func checkModule(t *testing.T, p impl.Pair, distance, want, wantCode int64) {
	t.Helper()
	if got, code := impl.FitModule(p, distance); got != want || code != wantCode {
		t.Errorf("FitModule(%v, %d): got %d, code %d, want %d, code %d", p, distance, got, code, want, wantCode)
	}
}

func TestPromise10FitModule(t *testing.T) {
	for _, c := range []struct{ driver, driven, distance, module int64 }{
		{60, 10, 3499, 9}, {60, 10, 3500, 10}, {60, 10, 3501, 10}, {60, 10, 350, 1}, {60, 10, 699, 1}, {60, 10, 700, 2}, {6, 240, 1230, 1}, {240, 6, 2459, 1},
		{60, 10, 174999, 499}, {60, 10, 175000, 500}, {60, 10, 175350, 500}, {60, 10, most, 500},
		{6, 6, 60, 1}, {6, 6, 29999, 499}, {6, 6, 30000, 500}, {6, 6, 30060, 500}, {6, 6, most, 500},
		{240, 240, 2400, 1}, {240, 240, 1199999, 499}, {240, 240, 1200000, 500}, {240, 240, 1202400, 500}, {240, 240, most - 1, 500}, {240, 240, most, 500},
	} {
		checkModule(t, impl.Pair{Driver: c.driver, Driven: c.driven}, c.distance, c.module, impl.OK)
	}
	for _, c := range []struct{ driver, driven, distance int64 }{
		{60, 10, 349}, {60, 10, 1}, {6, 6, 59}, {6, 6, 1}, {6, 6, 2}, {240, 240, 2399}, {240, 240, 1}, {6, 240, 1229}, {240, 6, 1229},
	} {
		checkModule(t, impl.Pair{Driver: c.driver, Driven: c.driven}, c.distance, 0, impl.ErrNotFound)
	}
}

func TestPromise10ModulesFitTheirDistances(t *testing.T) {
	source := rand.New(rand.NewSource(106))
	for range 20000 {
		p := impl.Pair{Driver: 6 + source.Int63n(235), Driven: 6 + source.Int63n(235)}
		step := 5 * (p.Driver + p.Driven)
		distance := step*source.Int63n(504) + source.Int63n(3) - 1
		want := int64(0)
		for module := int64(1); module <= 500 && module*step <= distance; module++ {
			want = module
		}
		switch {
		case distance < 1:
			checkModule(t, p, distance, 0, impl.ErrRange)
		case want == 0:
			checkModule(t, p, distance, 0, impl.ErrNotFound)
		default:
			checkModule(t, p, distance, want, impl.OK)
		}
	}
}

func TestPromise10ErrorsOfFittingModulesInTheirOrder(t *testing.T) {
	for _, p := range []impl.Pair{{Driver: 60, Driven: 10}, {Driver: 6, Driven: 6}, {Driver: 240, Driven: 240}} {
		for _, bad := range []int64{0, -1, -350, -most, most + 1, most + 2, least, least + 1, greatest, greatest - 1, -1 << 32, 1<<32 + 3500} {
			checkModule(t, p, bad, 0, impl.ErrRange)
		}
	}
	for _, bad := range notToothCounts() {
		for _, distance := range []int64{1, 3500, most, 0, -1, most + 1, least, greatest} {
			checkModule(t, impl.Pair{Driver: bad, Driven: 10}, distance, 0, impl.ErrInvalid)
			checkModule(t, impl.Pair{Driver: 60, Driven: bad}, distance, 0, impl.ErrInvalid)
			checkModule(t, impl.Pair{Driver: bad, Driven: bad}, distance, 0, impl.ErrInvalid)
			checkModule(t, impl.Pair{Driver: bad, Driven: -bad}, distance, 0, impl.ErrInvalid)
		}
	}
}

// profileResults returns all that the functions of profiles tell about two of them.
func profileResults(a, b impl.Profile, n int64) string {
	text := fmt.Sprint(impl.ValidAngle(a.Angle), impl.ValidProfile(a))
	pitch, outside, root, code := impl.Diameters(a)
	text += fmt.Sprint(" ", pitch, outside, root, code)
	low, high, code := impl.PiBounds(n)
	text += fmt.Sprint(" ", low, high, code)
	low, high, code = impl.ThicknessBounds(a, n)
	text += fmt.Sprint(" ", low, high, code)
	teeth, code := impl.LeastTeeth(a.Angle, n)
	text += fmt.Sprint(" ", teeth, code)
	module, code := impl.FitModule(impl.Pair{Driver: a.Teeth, Driven: b.Teeth}, n)
	text += fmt.Sprint(" ", module, code)
	for _, f := range functionsOfTwo() {
		results, code := f.call(a, b)
		text += fmt.Sprint(" ", results, code)
	}
	return text
}

func TestPromise1ProfilesFromSeveralGoroutines(t *testing.T) {
	source := rand.New(rand.NewSource(107))
	var list [][2]impl.Profile
	angles := someAngles()
	for range 400 {
		a, b := anyProfiles(angles, source)
		list = append(list, [2]impl.Profile{a, b})
	}
	bad := badProfiles()
	for i := range 100 {
		list = append(list, [2]impl.Profile{bad[i], bad[len(bad)-1-i]}, [2]impl.Profile{list[i][0], bad[i]})
	}
	var want []string
	for i, pair := range list {
		want = append(want, profileResults(pair[0], pair[1], int64(i)))
	}
	var all sync.WaitGroup
	for range 8 {
		all.Go(func() {
			for i, pair := range slices.Backward(list) {
				if got := profileResults(pair[0], pair[1], int64(i)); got != want[i] {
					t.Errorf("results for %v: got %s, but %s before", pair, got, want[i])
				}
			}
		})
	}
	all.Wait()
}

func TestPromise1ProfilesWithAnyNumbers(t *testing.T) {
	numbers := append(farNumbers(), -1, 0, 1, 6, 13, 240, 1000, 33102, most, most+1)
	source := rand.New(rand.NewSource(108))
	one := func() int64 { return numbers[source.Intn(len(numbers))] }
	for range 20000 {
		a, b := profile(one(), one(), one(), angle(one(), one(), one())), profile(one(), one(), one(), angle(one(), one(), one()))
		n := one()
		if source.Intn(2) == 0 {
			a.Angle, b.Angle = usual(), usual()
		}
		if got, again := profileResults(a, b, n), profileResults(a, b, n); got != again {
			t.Errorf("results for %v, %v and %d: got %s, but %s before", a, b, n, again, got)
		}
		if impl.ValidProfile(a) != isProfile(a) || impl.ValidAngle(a.Angle) != isAngle(a.Angle) {
			t.Errorf("%v: got %t and %t, want %t and %t", a, impl.ValidProfile(a), impl.ValidAngle(a.Angle), isProfile(a), isAngle(a.Angle))
		}
	}
}
