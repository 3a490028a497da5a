package tests

import (
	"math/big"
	"math/rand"
	"regexp"
	"slices"
	"strconv"
	"strings"
	"testing"

	"loop.example/g00921/impl"
)

// train returns the train of drivers and driven wheels, in turn.
func train(teeth ...int64) []impl.Pair {
	list := []impl.Pair{}
	for i := 0; i < len(teeth); i += 2 {
		list = append(list, impl.Pair{Driver: teeth[i], Driven: teeth[i+1]})
	}
	return list
}

// wheelsOf returns the drivers and the driven wheels of a train, each in ascending order.
func wheelsOf(list []impl.Pair) (drivers, driven []int64) {
	for _, p := range list {
		drivers, driven = append(drivers, p.Driver), append(driven, p.Driven)
	}
	slices.Sort(drivers)
	slices.Sort(driven)
	return drivers, driven
}

// beyond is a train of which the product of the first four pairs has a term beyond MaxTerm, but not the whole one.
func beyond() []impl.Pair { return train(239, 7, 239, 7, 239, 7, 239, 7, 7, 239) }

// randomTrain returns trains of all lengths, some of whose wheels have many common divisors, and some many teeth.
func randomTrain(source *rand.Rand) []impl.Pair {
	list := []impl.Pair{}
	kind := source.Intn(3)
	for range min(impl.MaxStages, source.Intn(impl.MaxStages+3)) {
		p := impl.Pair{Driver: 6 + source.Int63n(235), Driven: 6 + source.Int63n(235)}
		switch kind {
		case 0:
			p = impl.Pair{Driver: 6 * (1 + source.Int63n(40)), Driven: 4 * (2 + source.Int63n(59))}
		case 1:
			p = impl.Pair{Driver: 240 - source.Int63n(60), Driven: 239 - source.Int63n(60)}
		}
		list = append(list, p)
	}
	return list
}

// manyTrains are trains of each length, with the least and the greatest wheels, and random ones.
func manyTrains() [][]impl.Pair {
	list := [][]impl.Pair{
		nil, {}, train(6, 6), train(240, 240), train(6, 240), train(240, 6), train(64, 8), train(30, 12), train(64, 8, 60, 8), train(64, 8, 60, 8, 48, 6), beyond(),
		train(240, 6, 240, 6, 240, 6, 240, 6, 240, 6), train(6, 240, 6, 240, 6, 240, 6, 240, 6, 240), train(60, 60, 72, 72), train(7, 239, 239, 7), train(12, 10, 10, 12, 11, 11),
	}
	source := rand.New(rand.NewSource(9))
	for range 1500 {
		list = append(list, randomTrain(source))
	}
	return list
}

func notToothCounts() []int64 {
	return []int64{impl.MinTeeth - 1, impl.MaxTeeth + 1, 0, 1, -1, -6, -64, -240, 1000, most, 1<<32 + 64, least, greatest}
}

// notTrains are lists that are too long, or have a wheel out of range at each place.
func notTrains() [][]impl.Pair {
	list := [][]impl.Pair{
		train(60, 8, 60, 8, 60, 8, 60, 8, 60, 8, 60, 8), train(60, 60, 60, 60, 60, 60, 60, 60, 60, 60, 60, 60), slices.Repeat(train(6, 6), 6), slices.Repeat(train(64, 8), 1000), slices.Repeat(train(5, 5), 6),
		{{}}, train(64, 8, 0, 0), slices.Repeat(train(0, 0), 5), append(beyond(), impl.Pair{Driver: 60, Driven: 8}),
	}
	for _, bad := range notToothCounts() {
		list = append(list, train(bad, 8), train(64, bad), train(bad, bad))
		for stages := 1; stages <= impl.MaxStages; stages++ {
			for place := range stages {
				one := slices.Repeat(train(64, 8), stages)
				two := slices.Clone(one)
				one[place].Driver = bad
				two[place].Driven = bad
				list = append(list, one, two)
			}
		}
		// The product of the pairs in front of it is not a valid ratio.
		unfit := beyond()
		unfit[4].Driven = bad
		list = append(list, unfit)
	}
	return list
}

func TestPromise5ValidPair(t *testing.T) {
	if impl.MinTeeth != 6 || impl.MaxTeeth != 240 || impl.MaxStages != 5 {
		t.Errorf("MinTeeth, MaxTeeth, MaxStages: got %d %d %d", impl.MinTeeth, impl.MaxTeeth, impl.MaxStages)
	}
	numbers := append(notToothCounts(), 6, 7, 8, 64, 239, 240)
	for n := int64(-3); n <= 250; n++ {
		numbers = append(numbers, n)
	}
	for _, a := range numbers {
		for _, b := range numbers {
			want := a >= 6 && a <= 240 && b >= 6 && b <= 240
			p := impl.Pair{Driver: a, Driven: b}
			if got := impl.ValidPair(p); got != want {
				t.Errorf("ValidPair(%v): got %t, want %t", p, got, want)
			}
			if got := impl.ValidTrain([]impl.Pair{p}); got != want {
				t.Errorf("ValidTrain of %v alone: got %t, want %t", p, got, want)
			}
		}
	}
}

func TestPromise5ValidTrain(t *testing.T) {
	for _, list := range manyTrains() {
		if !impl.ValidTrain(list) {
			t.Errorf("ValidTrain(%v): got false, want true", list)
		}
	}
	for _, list := range notTrains() {
		if impl.ValidTrain(list) {
			t.Errorf("ValidTrain(%v): got true, want false", list)
		}
	}
	for length := range 10 {
		if got := impl.ValidTrain(slices.Repeat(train(60, 8), length)); got != (length <= 5) {
			t.Errorf("ValidTrain of %d pairs: got %t", length, got)
		}
	}
}

func TestPromise5SameTrain(t *testing.T) {
	lists := append(manyTrains()[:40], notTrains()[:40]...)
	lists = append(lists, train(64, 8, 60, 7), train(64, 8, 60, 8, 60, 8), train(60, 8, 64, 8), train(8, 64, 8, 60), train(64, 60, 8, 8), train(8, 64))
	for i, a := range lists {
		for j, b := range lists {
			want := len(a) == len(b)
			for k := 0; want && k < len(a); k++ {
				want = a[k].Driver == b[k].Driver && a[k].Driven == b[k].Driven
			}
			if got := impl.SameTrain(a, slices.Clone(b)); got != want || i == j && !got {
				t.Errorf("SameTrain(%v, %v): got %t, want %t", a, b, got, want)
			}
		}
	}
	if !impl.SameTrain(nil, []impl.Pair{}) || !impl.SameTrain([]impl.Pair{}, nil) || !impl.SameTrain(nil, nil) || impl.SameTrain(nil, train(6, 6)) {
		t.Error("SameTrain: nil and the empty list are not treated as equal ones")
	}
}

type trainCase struct {
	list []impl.Pair
	want impl.Ratio
	code int64
}

func TestPromise5TrainRatio(t *testing.T) {
	cases := []trainCase{
		{nil, over(1, 1), impl.OK}, {train(), over(1, 1), impl.OK}, {train(30, 12), over(-5, 2), impl.OK}, {train(12, 30), over(-2, 5), impl.OK}, {train(64, 8, 60, 8), over(60, 1), impl.OK},
		{train(6, 6), over(-1, 1), impl.OK}, {train(240, 240), over(-1, 1), impl.OK}, {train(240, 6), over(-40, 1), impl.OK}, {train(6, 240), over(-1, 40), impl.OK}, {train(7, 9), over(-7, 9), impl.OK},
		{train(60, 60, 72, 72), over(1, 1), impl.OK}, {train(7, 239, 239, 7), over(1, 1), impl.OK}, {train(60, 60, 60, 60, 60, 60), over(-1, 1), impl.OK}, {slices.Repeat(train(60, 60), 5), over(-1, 1), impl.OK},
		{train(64, 8, 60, 8, 48, 6), over(-480, 1), impl.OK}, {slices.Repeat(train(240, 6), 4), over(2560000, 1), impl.OK}, {slices.Repeat(train(240, 6), 5), over(-102400000, 1), impl.OK}, {slices.Repeat(train(6, 240), 5), over(-1, 102400000), impl.OK},
		{slices.Repeat(train(239, 7), 3), over(-13651919, 343), impl.OK}, {slices.Repeat(train(7, 239), 3), over(-343, 13651919), impl.OK},
		// One of the products of the first pairs is not a valid ratio.
		{slices.Repeat(train(239, 7), 4), impl.Ratio{}, impl.ErrRange}, {slices.Repeat(train(7, 239), 4), impl.Ratio{}, impl.ErrRange}, {slices.Repeat(train(239, 7), 5), impl.Ratio{}, impl.ErrRange},
		{beyond(), impl.Ratio{}, impl.ErrRange}, {train(7, 239, 7, 239, 7, 239, 7, 239, 239, 7), impl.Ratio{}, impl.ErrRange}, {train(239, 7, 239, 7, 239, 7, 239, 7, 240, 239), impl.Ratio{}, impl.ErrRange},
		// The same wheels in another order, or engaging with others.
		{train(239, 7, 239, 7, 7, 239, 239, 7, 239, 7), over(-13651919, 343), impl.OK}, {train(239, 7, 239, 7, 239, 239, 239, 7, 7, 7), over(-13651919, 343), impl.OK}, {train(7, 239, 239, 7, 239, 7, 239, 7, 239, 7), over(-13651919, 343), impl.OK},
		{train(64, 8, 30, 12), over(20, 1), impl.OK}, {train(30, 12, 64, 8), over(20, 1), impl.OK}, {train(30, 8, 64, 12), over(20, 1), impl.OK}, {train(64, 12, 30, 8), over(20, 1), impl.OK},
		// Terms of exactly MaxTerm, and the next greater ones that are there.
		{train(125, 7, 125, 9, 125, 11, 64, 13, 8, 17), over(-most, 153153), impl.OK}, {train(7, 125, 9, 125, 11, 125, 13, 64, 17, 8), over(-153153, most), impl.OK},
		{train(125, 7, 125, 8, 125, 11, 27, 13, 19, 17), impl.Ratio{}, impl.ErrRange}, {train(7, 125, 8, 125, 11, 125, 13, 27, 17, 19), impl.Ratio{}, impl.ErrRange},
	}
	for _, c := range cases {
		if got, code := impl.TrainRatio(c.list); got != c.want || code != c.code {
			t.Errorf("TrainRatio(%v): got %v %d, want %v %d", c.list, got, code, c.want, c.code)
		}
	}
}

// productOfPairs returns the product of the pairs, with the sign of a train, and whether all products of the first pairs are valid ratios.
func productOfPairs(list []impl.Pair) (*big.Rat, bool) {
	product, allValid := big.NewRat(1, 1), true
	for _, p := range list {
		product.Mul(product, big.NewRat(-p.Driver, p.Driven))
		_, ok := exactly(product)
		allValid = allValid && ok
	}
	return product, allValid
}

// expectRatio returns what TrainRatio should return for a train.
func expectRatio(list []impl.Pair) (impl.Ratio, int64) {
	product, allValid := productOfPairs(list)
	if !allValid {
		return impl.Ratio{}, impl.ErrRange
	}
	r, _ := exactly(product)
	return r, impl.OK
}

func TestPromise5TrainRatioIsTheProductOfThePairs(t *testing.T) {
	codes := map[int64]int{}
	for _, list := range manyTrains() {
		want, wantCode := expectRatio(list)
		codes[wantCode]++
		if got, code := impl.TrainRatio(list); got != want || code != wantCode {
			t.Errorf("TrainRatio(%v): got %v %d, want %v %d", list, got, code, want, wantCode)
		}
	}
	if codes[impl.OK] < 500 || codes[impl.ErrRange] < 60 {
		t.Errorf("trains that were tried: %v", codes)
	}
	for a := int64(6); a <= 240; a++ {
		for b := int64(6); b <= 240; b++ {
			want, _ := exactly(big.NewRat(-a, b))
			if got, code := impl.TrainRatio(train(a, b)); got != want || code != impl.OK {
				t.Errorf("TrainRatio of %d:%d: got %v %d, want %v", a, b, got, code, want)
			}
		}
	}
}

// shuffled returns a train with the same drivers and driven wheels, each in another order.
func shuffled(list []impl.Pair, source *rand.Rand) []impl.Pair {
	other := []impl.Pair{}
	drivers, driven := source.Perm(len(list)), source.Perm(len(list))
	for i := range list {
		other = append(other, impl.Pair{Driver: list[drivers[i]].Driver, Driven: list[driven[i]].Driven})
	}
	return other
}

func TestPromise5RatiosDoNotDependOnTheOrder(t *testing.T) {
	source := rand.New(rand.NewSource(10))
	compared := 0
	for _, list := range manyTrains() {
		r, code := impl.TrainRatio(list)
		if code != impl.OK {
			continue
		}
		for range 5 {
			other := shuffled(list, source)
			got, gotCode := impl.TrainRatio(other)
			if want, wantCode := expectRatio(other); got != want || gotCode != wantCode {
				t.Errorf("TrainRatio(%v): got %v %d, want %v %d", other, got, gotCode, want, wantCode)
			}
			if gotCode != impl.OK {
				continue
			}
			compared++
			if got != r {
				t.Errorf("TrainRatio: got %v for %v, but %v for %v", r, list, got, other)
			}
		}
	}
	if compared < 3000 {
		t.Errorf("only %d trains were compared", compared)
	}
}

func TestPromise5CanonTrain(t *testing.T) {
	cases := []struct{ list, want []impl.Pair }{
		{nil, nil}, {train(), nil}, {train(30, 12), train(30, 12)}, {train(30, 12, 64, 8), train(64, 8, 30, 12)}, {train(64, 8, 30, 12), train(64, 8, 30, 12)}, {train(64, 12, 30, 8), train(64, 8, 30, 12)},
		{train(60, 8, 60, 8), train(60, 8, 60, 8)}, {train(60, 9, 60, 8), train(60, 8, 60, 9)}, {train(59, 8, 60, 8), train(60, 8, 59, 8)}, {train(9, 100, 100, 9), train(100, 9, 9, 100)}, {train(6, 240, 240, 6), train(240, 6, 6, 240)},
		{train(6, 240, 7, 239, 8, 238, 9, 237, 10, 236), train(10, 236, 9, 237, 8, 238, 7, 239, 6, 240)}, {train(10, 10, 9, 9, 100, 100), train(100, 9, 10, 10, 9, 100)}, {train(60, 6, 70, 7, 60, 6, 70, 7), train(70, 6, 70, 6, 60, 7, 60, 7)},
	}
	for _, c := range cases {
		if got, code := impl.CanonTrain(c.list); !slices.Equal(got, c.want) || code != impl.OK {
			t.Errorf("CanonTrain(%v): got %v %d, want %v", c.list, got, code, c.want)
		}
	}
}

func TestPromise5CanonTrainIsTheSameForTheSameWheels(t *testing.T) {
	source := rand.New(rand.NewSource(11))
	for _, list := range manyTrains() {
		canon, code := impl.CanonTrain(list)
		drivers, driven := wheelsOf(list)
		var want []impl.Pair
		for i := range list {
			want = append(want, impl.Pair{Driver: drivers[len(list)-1-i], Driven: driven[i]})
		}
		if !slices.Equal(canon, want) || code != impl.OK {
			t.Errorf("CanonTrain(%v): got %v %d, want %v", list, canon, code, want)
		}
		for _, other := range [][]impl.Pair{canon, shuffled(list, source)} {
			if again, code := impl.CanonTrain(other); !slices.Equal(again, canon) || code != impl.OK {
				t.Errorf("CanonTrain(%v): got %v %d, but %v for %v", other, again, code, canon, list)
			}
		}
		r, code := impl.TrainRatio(list)
		if s, canonCode := impl.TrainRatio(canon); code == impl.OK && canonCode == impl.OK && r != s {
			t.Errorf("TrainRatio: got %v for %v, but %v for %v", r, list, s, canon)
		}
	}
}

func TestPromise5ReverseTrain(t *testing.T) {
	cases := []struct{ list, want []impl.Pair }{
		{nil, nil}, {train(), nil}, {train(30, 12), train(12, 30)}, {train(60, 60), train(60, 60)}, {train(64, 8, 60, 7), train(7, 60, 8, 64)}, {train(240, 6, 6, 240), train(240, 6, 6, 240)},
		{train(64, 8, 60, 7, 50, 6), train(6, 50, 7, 60, 8, 64)}, {train(10, 20, 11, 21, 12, 22, 13, 23, 14, 24), train(24, 14, 23, 13, 22, 12, 21, 11, 20, 10)},
	}
	for _, c := range cases {
		if got, code := impl.ReverseTrain(c.list); !slices.Equal(got, c.want) || code != impl.OK {
			t.Errorf("ReverseTrain(%v): got %v %d, want %v", c.list, got, code, c.want)
		}
	}
	for _, list := range manyTrains() {
		back, code := impl.ReverseTrain(list)
		again, againCode := impl.ReverseTrain(back)
		if !slices.Equal(again, list) || code != impl.OK || againCode != impl.OK {
			t.Errorf("ReverseTrain(%v): got %v %d, and %v %d in reverse", list, back, code, again, againCode)
		}
		for i, p := range back {
			if q := list[len(list)-1-i]; p.Driver != q.Driven || p.Driven != q.Driver {
				t.Errorf("ReverseTrain(%v): got %v", list, back)
			}
		}
		r, code := impl.TrainRatio(list)
		s, backCode := impl.TrainRatio(back)
		if code != impl.OK || backCode != impl.OK {
			continue
		}
		if bigOf(r).Cmp(new(big.Rat).Inv(bigOf(s))) != 0 {
			t.Errorf("TrainRatio: got %v for %v, and %v for the reverse train", r, list, s)
		}
	}
}

func TestPromise5TeethOf(t *testing.T) {
	cases := []struct {
		list []impl.Pair
		want int64
	}{
		{nil, 0}, {train(), 0}, {train(6, 6), 12}, {train(240, 240), 480}, {train(64, 8, 60, 8), 140}, {train(64, 8), 72}, {train(8, 64), 72},
		{slices.Repeat(train(240, 240), 5), 2400}, {slices.Repeat(train(6, 6), 5), 60}, {train(10, 20, 11, 21, 12, 22, 13, 23, 14, 24), 170}, {beyond(), 239*5 + 7*5},
	}
	for _, c := range cases {
		if got, code := impl.TeethOf(c.list); got != c.want || code != impl.OK {
			t.Errorf("TeethOf(%v): got %d %d, want %d", c.list, got, code, c.want)
		}
	}
	for _, list := range manyTrains() {
		want := int64(0)
		for _, p := range list {
			want += p.Driver + p.Driven
		}
		if got, code := impl.TeethOf(list); got != want || code != impl.OK {
			t.Errorf("TeethOf(%v): got %d %d, want %d", list, got, code, want)
		}
	}
}

func TestPromise5MeetingTurns(t *testing.T) {
	for p, want := range map[impl.Pair]int64{
		{Driver: 64, Driven: 12}: 3, {Driver: 12, Driven: 64}: 16, {Driver: 64, Driven: 8}: 1, {Driver: 8, Driven: 64}: 8, {Driver: 7, Driven: 9}: 9, {Driver: 9, Driven: 7}: 7,
		{Driver: 6, Driven: 6}: 1, {Driver: 240, Driven: 240}: 1, {Driver: 240, Driven: 6}: 1, {Driver: 6, Driven: 240}: 40, {Driver: 239, Driven: 240}: 240, {Driver: 240, Driven: 239}: 239,
	} {
		if got, code := impl.MeetingTurns(p); got != want || code != impl.OK {
			t.Errorf("MeetingTurns(%v): got %d %d, want %d", p, got, code, want)
		}
	}
	for a := int64(6); a <= 240; a++ {
		for b := int64(6); b <= 240; b++ {
			// The driven wheel is in the same position again after whole turns of its own.
			turns := int64(1)
			for turns*a%b != 0 {
				turns++
			}
			if got, code := impl.MeetingTurns(impl.Pair{Driver: a, Driven: b}); got != turns || code != impl.OK {
				t.Errorf("MeetingTurns of %d:%d: got %d %d, want %d", a, b, got, code, turns)
			}
		}
	}
	for _, bad := range notToothCounts() {
		for _, p := range []impl.Pair{{Driver: bad, Driven: 8}, {Driver: 64, Driven: bad}, {Driver: bad, Driven: bad}, {Driver: bad, Driven: 6}, {Driver: 240, Driven: bad}} {
			if got, code := impl.MeetingTurns(p); got != 0 || code != impl.ErrInvalid {
				t.Errorf("MeetingTurns(%v): got %d %d, want ErrInvalid", p, got, code)
			}
		}
	}
}

func TestPromise5BeatsPerHour(t *testing.T) {
	cases := []struct {
		list  []impl.Pair
		teeth int64
		want  impl.Ratio
		code  int64
	}{
		{train(64, 8, 60, 8), 30, over(3600, 1), impl.OK}, {nil, 30, over(60, 1), impl.OK}, {train(), 6, over(12, 1), impl.OK}, {train(), 240, over(480, 1), impl.OK},
		{train(64, 8, 60, 8), 6, over(720, 1), impl.OK}, {train(64, 8, 60, 8), 240, over(28800, 1), impl.OK}, {train(64, 8, 60, 8), 15, over(1800, 1), impl.OK},
		{train(64, 8, 60, 8), 5, impl.Ratio{}, impl.ErrRange}, {train(64, 8, 60, 8), 241, impl.Ratio{}, impl.ErrRange}, {nil, 5, impl.Ratio{}, impl.ErrRange}, {train(), 241, impl.Ratio{}, impl.ErrRange},
		// With an odd number of pairs the escape wheel turns backwards.
		{train(30, 12), 30, over(150, 1), impl.OK}, {train(64, 8, 60, 8, 48, 6), 15, over(14400, 1), impl.OK}, {train(60, 60), 30, over(60, 1), impl.OK},
		// No integers.
		{train(60, 7), 30, over(3600, 7), impl.OK}, {train(64, 7, 60, 9), 30, over(25600, 7), impl.OK}, {train(6, 240), 6, over(3, 10), impl.OK}, {train(7, 239), 11, over(154, 239), impl.OK}, {slices.Repeat(train(6, 240), 5), 6, over(3, 25600000), impl.OK},
		// 2 * teeth * Num is beyond MaxTerm, but the result is a valid ratio.
		{slices.Repeat(train(239, 240), 3), 120, over(13651919, 57600), impl.OK}, {slices.Repeat(train(240, 6), 4), 195, over(998400000, 1), impl.OK}, {train(125, 7, 125, 9, 125, 11, 64, 13, 8, 34), 17, over(most, 9009), impl.OK},
		// The train has a valid ratio, and the result is not one.
		{slices.Repeat(train(240, 6), 4), 196, impl.Ratio{}, impl.ErrRange}, {slices.Repeat(train(240, 6), 5), 6, impl.Ratio{}, impl.ErrRange}, {slices.Repeat(train(239, 7), 3), 240, impl.Ratio{}, impl.ErrRange},
		{train(125, 7, 125, 9, 125, 11, 64, 13, 8, 17), 6, impl.Ratio{}, impl.ErrRange}, {train(125, 7, 125, 9, 125, 11, 64, 13, 8, 34), 18, impl.Ratio{}, impl.ErrRange},
		// The ratio of the train is not told.
		{beyond(), 30, impl.Ratio{}, impl.ErrRange}, {beyond(), 7, impl.Ratio{}, impl.ErrRange}, {slices.Repeat(train(7, 239), 4), 239, impl.Ratio{}, impl.ErrRange}, {beyond(), 5, impl.Ratio{}, impl.ErrRange}, {beyond(), greatest, impl.Ratio{}, impl.ErrRange},
	}
	for _, c := range cases {
		if got, code := impl.BeatsPerHour(c.list, c.teeth); got != c.want || code != c.code {
			t.Errorf("BeatsPerHour(%v, %d): got %v %d, want %v %d", c.list, c.teeth, got, code, c.want, c.code)
		}
	}
	for _, list := range [][]impl.Pair{nil, train(64, 8, 60, 8), train(30, 12)} {
		for _, bad := range notToothCounts() {
			if got, code := impl.BeatsPerHour(list, bad); got != (impl.Ratio{}) || code != impl.ErrRange {
				t.Errorf("BeatsPerHour(%v, %d): got %v %d, want ErrRange", list, bad, got, code)
			}
		}
	}
}

func TestPromise5BeatsAreTwiceTheTeeth(t *testing.T) {
	source := rand.New(rand.NewSource(12))
	beyondTerms := 0
	for _, list := range manyTrains() {
		product, allValid := productOfPairs(list)
		for _, teeth := range []int64{6, 240, 6 + source.Int63n(235)} {
			beats := new(big.Rat).Mul(product, big.NewRat(2*teeth, 1))
			want, ok := exactly(beats.Abs(beats))
			wantCode := int64(impl.OK)
			if !allValid || !ok {
				want, wantCode = impl.Ratio{}, impl.ErrRange
			}
			if allValid && !ok {
				beyondTerms++
			}
			if got, code := impl.BeatsPerHour(list, teeth); got != want || code != wantCode {
				t.Errorf("BeatsPerHour(%v, %d): got %v %d, want %v %d", list, teeth, got, code, want, wantCode)
			}
		}
	}
	if beyondTerms < 20 {
		t.Errorf("only %d trains with a valid ratio had no valid beats", beyondTerms)
	}
}

func TestPromise5NotTrains(t *testing.T) {
	for _, list := range notTrains() {
		if got, code := impl.TrainRatio(list); got != (impl.Ratio{}) || code != impl.ErrInvalid {
			t.Errorf("TrainRatio(%v): got %v %d, want ErrInvalid", list, got, code)
		}
		if got, code := impl.CanonTrain(list); len(got) != 0 || code != impl.ErrInvalid {
			t.Errorf("CanonTrain(%v): got %v %d, want ErrInvalid", list, got, code)
		}
		if got, code := impl.ReverseTrain(list); len(got) != 0 || code != impl.ErrInvalid {
			t.Errorf("ReverseTrain(%v): got %v %d, want ErrInvalid", list, got, code)
		}
		if got, code := impl.TeethOf(list); got != 0 || code != impl.ErrInvalid {
			t.Errorf("TeethOf(%v): got %d %d, want ErrInvalid", list, got, code)
		}
		// ErrInvalid also comes before the errors of the escape wheel.
		for _, teeth := range append(notToothCounts(), 6, 30, 240) {
			if got, code := impl.BeatsPerHour(list, teeth); got != (impl.Ratio{}) || code != impl.ErrInvalid {
				t.Errorf("BeatsPerHour(%v, %d): got %v %d, want ErrInvalid", list, teeth, got, code)
			}
		}
		if got := impl.TrainText(list); got != "" {
			t.Errorf("TrainText(%v): got %q, want the empty string", list, got)
		}
	}
}

func TestPromise5TrainText(t *testing.T) {
	cases := []struct {
		list []impl.Pair
		want string
	}{
		{nil, "-"}, {train(), "-"}, {train(64, 8), "64:8"}, {train(64, 8, 60, 8), "64:8 60:8"}, {train(6, 240), "6:240"}, {train(240, 6, 100, 10, 99, 9), "240:6 100:10 99:9"}, {beyond(), "239:7 239:7 239:7 239:7 7:239"},
	}
	for _, c := range cases {
		if got := impl.TrainText(c.list); got != c.want {
			t.Errorf("TrainText(%v): got %q, want %q", c.list, got, c.want)
		}
		if got, ok := impl.ReadTrain(c.want); !slices.Equal(got, c.list) || !ok {
			t.Errorf("ReadTrain(%q): got %v %t, want %v true", c.want, got, ok, c.list)
		}
	}
	for _, list := range manyTrains() {
		var words []string
		for _, p := range list {
			words = append(words, strconv.FormatInt(p.Driver, 10)+":"+strconv.FormatInt(p.Driven, 10))
		}
		want := strings.Join(words, " ")
		if len(list) == 0 {
			want = "-"
		}
		text := impl.TrainText(list)
		if got, ok := impl.ReadTrain(text); text != want || !slices.Equal(got, list) || !ok {
			t.Errorf("TrainText(%v): got %q, want %q, and it is read as %v %t", list, text, want, got, ok)
		}
	}
}

// badTexts are texts of no trains.
func badTexts() []string {
	list := []string{
		"", " ", ":", "--", "- ", " -", "- -", "-:-", "-64", "-1", "0", "64", "64 8", "64:", ":8", "64::8", "64:8:", ":64:8", "64:8:5", "64:8:", "64 :8", "64: 8", "64 : 8", "648", "64;8", "64/8", "64：8",
		"+64:8", "64:+8", "-64:8", "64:-8", "-64:-8", "--64:8", "064:8", "64:08", "0064:8", "64:00000000000000000000008", "64:8.0", "6e1:8", "0x40:8", "6_4:8", "64:8a", "a64:8", "a:b", "٦٤:٨",
		" 64:8", "64:8 ", "64:8  60:8", " 64:8 60:8", "64:8 60:8 ", "64:8 60:8  ", "64:860:8", "64:8,60:8", "64:8:60:8", "64:8 60", "64:8 :8", "64:8 60:", "64:8 :", "64:8 -", "- 64:8", "-64:8 60:8", "64:8- 60:8", "64:8-60:8",
		"64:8\n", "\n64:8", "64:8\n60:8", "64:8\t60:8", "64\t:8", "64:\t8", "64:8\r", "64:8\v60:8", "64:8\f60:8", "64:8\u00a060:8", "64:8\u200360:8", "\ufeff64:8", "64:8\x00", "\x00", "\xff", "64:8\xff", "-\n", "-\x00", "−", "\t", "\n",
		"5:8", "64:5", "241:8", "64:241", "0:8", "64:0", "0:0", "5:5", "241:241", "1:1", "64:8 5:8", "64:8 64:5", "5:8 64:8", "64:8 60:8 241:8", "1000:8", "64:1000", "1000000000:8", "999999999999999999:8", "1000000000000000000:8",
		"9223372036854775807:8", "9223372036854775808:8", "18446744073709551680:8", "4294967360:8", "64:18446744073709551624", "64:4294967304", "320:8", "64:264",
		"64:8 64:8 64:8 64:8 64:8 64:8", "64:8 64:8 64:8 64:8 64:8 ", "64:8 64:8 64:8 64:8 64:8 -", "64:8 64:8 64:8 64:8 64:8 64", "64:8 64:8 64:8 64:8  64:8",
		strings.Repeat("9", 100000) + ":8", strings.Repeat("0", 100000) + "64:8", strings.Repeat("64:8 ", 20000), strings.Repeat(" ", 100000), strings.Repeat("64:8 ", 20000) + "64:8", strings.Repeat(":", 100000), "64:8" + strings.Repeat(" ", 100000),
	}
	return append(list, strings.ToUpper("six:eight"), "(64:8)", "\"64:8\"", "64:8 x", "x 64:8")
}

func TestPromise5TextsOfNoTrains(t *testing.T) {
	for _, s := range badTexts() {
		if got, ok := impl.ReadTrain(s); got != nil || ok {
			t.Errorf("ReadTrain(%.80q): got %v %t, want nil false", s, got, ok)
		}
	}
}

var trainPattern = regexp.MustCompile(`\A[1-9][0-9]{0,2}:[1-9][0-9]{0,2}( [1-9][0-9]{0,2}:[1-9][0-9]{0,2}){0,4}\z`)

// readByPattern returns what ReadTrain should return.
func readByPattern(s string) ([]impl.Pair, bool) {
	if s == "-" {
		return nil, true
	}
	if !trainPattern.MatchString(s) {
		return nil, false
	}
	var list []impl.Pair
	for word := range strings.SplitSeq(s, " ") {
		left, right, _ := strings.Cut(word, ":")
		a, _ := strconv.Atoi(left)
		b, _ := strconv.Atoi(right)
		if a < 6 || a > 240 || b < 6 || b > 240 {
			return nil, false
		}
		list = append(list, impl.Pair{Driver: int64(a), Driven: int64(b)})
	}
	return list, true
}

func checkRead(t *testing.T, s string) bool {
	t.Helper()
	want, wantOK := readByPattern(s)
	got, ok := impl.ReadTrain(s)
	if !slices.Equal(got, want) || ok != wantOK {
		t.Errorf("ReadTrain(%q): got %v %t, want %v %t", s, got, ok, want, wantOK)
	}
	if ok && impl.TrainText(got) != s {
		t.Errorf("ReadTrain(%q): the text of %v is %q", s, got, impl.TrainText(got))
	}
	return ok
}

func TestPromise5ReadTrainOfChangedTexts(t *testing.T) {
	for _, text := range []string{"-", "64:8", "240:6", "64:8 60:8", "12:240 240:12", "6:6 7:7 8:8 9:9 10:10"} {
		checkChanges(t, text, checkRead)
	}
}

func TestPromise5ReadTrainOfRandomTexts(t *testing.T) {
	source := rand.New(rand.NewSource(13))
	parts := []string{"6", "8", "64", "240", "241", "5", "0", "1", ":", ":", ":", " ", " ", "-", "+", "12:8", "64:8", "60:10 "}
	read := 0
	for range 20000 {
		var text strings.Builder
		for range source.Intn(8) {
			text.WriteString(parts[source.Intn(len(parts))])
		}
		if checkRead(t, text.String()) {
			read++
		}
	}
	if read < 300 {
		t.Errorf("only %d of the texts were those of trains", read)
	}
}

// callAll calls all functions of chapter 5 that have a list as an argument, and returns their lists.
func callAll(list []impl.Pair) [][]impl.Pair {
	canon, _ := impl.CanonTrain(list)
	back, _ := impl.ReverseTrain(list)
	impl.ValidTrain(list)
	impl.SameTrain(list, list)
	impl.TrainRatio(list)
	impl.TeethOf(list)
	impl.BeatsPerHour(list, 30)
	read, _ := impl.ReadTrain(impl.TrainText(list))
	return [][]impl.Pair{canon, back, read}
}

func TestPromise1TrainsAreNotModified(t *testing.T) {
	for _, list := range append(manyTrains()[:60], notTrains()[:60]...) {
		// A part of a longer list, with spare capacity behind it that is in use.
		whole := append(slices.Clone(list), train(61, 13, 62, 14, 63, 15)...)
		kept := slices.Clone(whole)
		part := whole[:len(list)]
		results := callAll(part)
		if !slices.Equal(whole, kept) {
			t.Errorf("a function changed its argument %v: %v", kept, whole)
		}
		for i, result := range results {
			again := slices.Clone(result)
			clear(result[:cap(result)])
			if !slices.Equal(whole, kept) {
				t.Errorf("result %d for %v shares memory with the argument", i, list)
			}
			if other := callAll(part)[i]; !slices.Equal(other, again) {
				t.Errorf("result %d for %v after a change of it: got %v, want %v", i, list, other, again)
			}
		}
	}
}
