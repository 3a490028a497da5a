package tests

import (
	"fmt"
	"math"
	"math/big"
	"math/rand"
	"reflect"
	"slices"
	"strings"
	"sync"
	"testing"

	"loop.example/g00921/impl"
)

func at(x, y int64) impl.Point { return impl.Point{X: x, Y: y} }

func site(name string, x, y, wheel, staff int64) impl.Site {
	return impl.Site{Name: name, At: at(x, y), Wheel: wheel, Staff: staff}
}

func plate(width, height, margin, gap int64, list ...impl.Site) impl.Plate {
	return impl.Plate{Width: width, Height: height, Margin: margin, Gap: gap, Sites: list}
}

// pointsOf returns the points of a text such as "0,0 10,5".
func pointsOf(text string) []impl.Point {
	var list []impl.Point
	for _, word := range strings.Fields(text) {
		var p impl.Point
		if _, err := fmt.Sscanf(word, "%d,%d", &p.X, &p.Y); err != nil {
			panic(err)
		}
		list = append(list, p)
	}
	return list
}

// plateWith returns a plate of the greatest size with sites s0, s1 and so on at points.
func plateWith(points []impl.Point) impl.Plate {
	p := plate(10000, 10000, 0, 0)
	for i, where := range points {
		p.Sites = append(p.Sites, site(fmt.Sprintf("s%d", i), where.X, where.Y, 1, 1))
	}
	return p
}

// fullPlate has as many sites as allowed, the longest names, and everything as great as allowed.
func fullPlate() impl.Plate {
	p := plate(10000, 10000, 1000, 1000)
	for i := range int64(20) {
		p.Sites = append(p.Sites, site(fmt.Sprintf("plate-arb-%02d", i), i*10000/19, i*i*10000/361, 10000, 1000))
	}
	return p
}

// shortened returns at most the first count sites of a plate.
func shortened(p impl.Plate, count int) impl.Plate {
	p.Sites = slices.Clone(p.Sites[:min(count, len(p.Sites))])
	return p
}

// ownPlate returns a deep copy without spare capacity, in which an empty slice is nil.
func ownPlate(p impl.Plate) impl.Plate {
	p.Sites = append([]impl.Site(nil), p.Sites...)
	return p
}

func equalPlates(a, b impl.Plate) bool { return reflect.DeepEqual(ownPlate(a), ownPlate(b)) }

func noPlate(p impl.Plate) bool { return equalPlates(p, impl.Plate{}) }

// isPlate reports by the words of the specification whether a plate is valid.
func isPlate(p impl.Plate) bool {
	good := p.Width >= 1 && p.Width <= 10000 && p.Height >= 1 && p.Height <= 10000 && p.Margin >= 0 && p.Margin <= 1000 && p.Gap >= 0 && p.Gap <= 1000 && len(p.Sites) <= 20
	names := map[string]bool{}
	for _, s := range p.Sites {
		good = good && namePattern.MatchString(s.Name) && s.At.X >= 0 && s.At.X <= p.Width && s.At.Y >= 0 && s.At.Y <= p.Height && s.Staff >= 1 && s.Staff <= 1000 && s.Wheel >= s.Staff && s.Wheel <= 10000
		names[s.Name] = true
	}
	return good && len(names) == len(p.Sites)
}

// goodPlate is a valid plate that is not square, with sites on each of its borders.
func goodPlate() impl.Plate {
	return plate(1000, 800, 10, 5, site("great", 100, 100, 80, 10), site("center", 200, 100, 30, 8), site("west", 0, 300, 20, 5), site("east", 1000, 400, 20, 5), site("south", 500, 0, 9, 9), site("north", 600, 800, 1, 1))
}

// farNumbers are numbers whose sums and products with others may overflow, or which a conversion to fewer bits makes small.
func farNumbers() []int64 {
	return []int64{least, least + 1, greatest, greatest - 1, 1 << 32, -1 << 32, 1<<32 + 5, 1<<31 + 5, -1000000}
}

// plateChange changes one field of a plate; the plate it is made for has at least two sites.
type plateChange struct {
	name  string
	value func(*impl.Plate) *int64
	good  []int64
	bad   []int64
}

// plateChanges tell which values each field of goodPlate may have.
func plateChanges() []plateChange {
	return []plateChange{
		{"Width", func(p *impl.Plate) *int64 { return &p.Width }, []int64{1000, 1001, 9999, 10000}, []int64{-1, 0, 10001, 10002, 999}},
		{"Height", func(p *impl.Plate) *int64 { return &p.Height }, []int64{800, 801, 9999, 10000}, []int64{-1, 0, 10001, 10002, 799}},
		{"Margin", func(p *impl.Plate) *int64 { return &p.Margin }, []int64{0, 1, 999, 1000}, []int64{-1, -2, 1001, 1002, 10000}},
		{"Gap", func(p *impl.Plate) *int64 { return &p.Gap }, []int64{0, 1, 999, 1000}, []int64{-1, -2, 1001, 1002, 10000}},
		{"X", func(p *impl.Plate) *int64 { return &p.Sites[1].At.X }, []int64{0, 1, 999, 1000}, []int64{-1, -2, 1001, 1002, 10000}},
		{"Y", func(p *impl.Plate) *int64 { return &p.Sites[1].At.Y }, []int64{0, 1, 799, 800}, []int64{-1, -2, 801, 802, 1000, 10000}},
		{"Staff", func(p *impl.Plate) *int64 { return &p.Sites[1].Staff }, []int64{1, 2, 29, 30}, []int64{-1, 0, 31, 32, 1000, 1001}},
		{"Wheel", func(p *impl.Plate) *int64 { return &p.Sites[1].Wheel }, []int64{8, 9, 9999, 10000}, []int64{-1, 0, 1, 7, 10001, 10002}},
	}
}

func badNames() []string {
	return []string{"", "abcdefghijklm", "1a", "9", "-", "-a", "A", "aB", "a b", " ", "a ", " a", "a_b", "a\n", "\x00", "a\xff", "ä", "great\x00", strings.Repeat("a", 100000)}
}

// badPlates are plates each of which is not valid for one reason.
func badPlates() []impl.Plate {
	list := []impl.Plate{{}, plate(0, 1, 0, 0), plate(1, 0, 0, 0), plate(1, 1, -1, 0), plate(1, 1, 0, -1), plate(10001, 10000, 0, 0), plate(10000, 10001, 0, 0), plate(1, 1, 1001, 0), plate(1, 1, 0, 1001), plate(0, 0, 0, 0, goodPlate().Sites...)}
	for _, c := range plateChanges() {
		for _, bad := range append(farNumbers(), c.bad...) {
			p := goodPlate()
			*c.value(&p) = bad
			list = append(list, p)
		}
	}
	for _, name := range badNames() {
		for place := range 3 {
			p := shortened(goodPlate(), 3)
			p.Sites[place].Name = name
			list = append(list, p, plate(9, 9, 0, 0, site(name, 1, 1, 1, 1)))
		}
	}
	for i := range 20 {
		for k := range i {
			p := fullPlate()
			p.Sites[i].Name = p.Sites[k].Name
			list = append(list, p)
		}
	}
	tooMany, both := fullPlate(), plateWith(pointsOf("1,1 1,1"))
	tooMany.Sites = append(tooMany.Sites, site("more", 1, 1, 1, 1))
	both.Sites[1] = both.Sites[0]
	return append(list, tooMany, both, plate(1, 1, 0, 0, make([]impl.Site, 21)...), plate(1, 1, 0, 0, slices.Repeat([]impl.Site{site("a", 0, 0, 1, 1)}, 100000)...))
}

// anyPlate returns a valid plate: on a small grid with many sites on one line and at the same point, on one line altogether, on a circle, or anywhere.
func anyPlate(source *rand.Rand) impl.Plate {
	size := []int64{1, 2, 4, 12, 100, 3000, 10000}
	p := plate(size[source.Intn(7)], size[source.Intn(7)], source.Int63n(1001), source.Int63n(1001))
	if source.Intn(3) > 0 {
		p.Margin, p.Gap = source.Int63n(30), source.Int63n(30)
	}
	a, b := at(source.Int63n(p.Width+1), source.Int63n(p.Height+1)), at(source.Int63n(p.Width+1), source.Int63n(p.Height+1))
	kind := source.Intn(4)
	for i := range source.Intn(21) {
		where := at(source.Int63n(p.Width+1), source.Int63n(p.Height+1))
		part := source.Int63n(7)
		switch {
		case kind == 0 && part < 5:
			// A point of a line, if the ends allow it.
			where = at(a.X+(b.X-a.X)*part/4, a.Y+(b.Y-a.Y)*part/4)
		case kind == 1:
			turn := float64(source.Intn(24)) * math.Pi / 12
			where = at(int64((1+math.Cos(turn))*float64(p.Width)/2), int64((1+math.Sin(turn))*float64(p.Height)/2))
		}
		staff := 1 + source.Int63n(20)
		p.Sites = append(p.Sites, site(fmt.Sprintf("r%d", i), where.X, where.Y, staff+source.Int63n(60), staff))
	}
	return p
}

func manyPlates(count int) []impl.Plate {
	list := []impl.Plate{plate(1, 1, 0, 0), plate(10000, 10000, 1000, 1000), goodPlate(), fullPlate(), plateWith(nil), plateWith(pointsOf("0,0")), plateWith(pointsOf("0,0 10000,0 10000,10000 0,10000")), plateWith(slices.Repeat(pointsOf("7,7"), 20))}
	source := rand.New(rand.NewSource(91))
	for len(list) < count {
		list = append(list, anyPlate(source))
	}
	return list
}

func TestPromise9ValidPoint(t *testing.T) {
	for _, x := range append(farNumbers(), -2, -1, 0, 1, 2, 5000, 9999, 10000, 10001, 10002) {
		for _, y := range append(farNumbers(), -2, -1, 0, 1, 2, 5000, 9999, 10000, 10001, 10002) {
			if got, want := impl.ValidPoint(at(x, y)), x >= 0 && x <= 10000 && y >= 0 && y <= 10000; got != want {
				t.Errorf("ValidPoint({%d %d}): got %t", x, y, got)
			}
		}
	}
}

func TestPromise9ManyPlatesAreValid(t *testing.T) {
	for _, p := range manyPlates(4000) {
		if !impl.ValidPlate(p) || !isPlate(p) {
			t.Errorf("ValidPlate(%v): got %t, want true", p, impl.ValidPlate(p))
		}
	}
	for i, p := range badPlates() {
		if impl.ValidPlate(p) || isPlate(p) {
			t.Errorf("ValidPlate of bad plate %d, %.300s: got true", i, fmt.Sprint(p))
		}
	}
}

func TestPromise9FieldsOfPlates(t *testing.T) {
	for _, c := range plateChanges() {
		for _, good := range c.good {
			p := goodPlate()
			*c.value(&p) = good
			if !impl.ValidPlate(p) {
				t.Errorf("%s of %d: got not valid", c.name, good)
			}
		}
		for _, bad := range append(farNumbers(), c.bad...) {
			p := goodPlate()
			*c.value(&p) = bad
			if impl.ValidPlate(p) {
				t.Errorf("%s of %d: got valid", c.name, bad)
			}
		}
	}
	for _, n := range append(farNumbers(), -1, 0, 1, 2, 9999, 10000, 10001) {
		want := n >= 1 && n <= 10000
		if got, other := impl.ValidPlate(plate(n, 1, 0, 0)), impl.ValidPlate(plate(10000, n, 1000, 1000)); got != want || other != want {
			t.Errorf("Width of %d: got %t; Height of %d: got %t", n, got, n, other)
		}
	}
}

func TestPromise9LimitsOfSites(t *testing.T) {
	for _, staff := range append(farNumbers(), -1, 0, 1, 2, 999, 1000, 1001, 9999, 10000, 10001) {
		for _, wheel := range append(farNumbers(), -1, 0, 1, staff-1, staff, staff+1, 999, 1000, 1001, 9999, 10000, 10001) {
			want := staff >= 1 && staff <= 1000 && wheel >= staff && wheel <= 10000
			if got := impl.ValidPlate(plate(3, 3, 0, 0, site("a", 1, 1, wheel, staff))); got != want {
				t.Errorf("Wheel of %d and Staff of %d: got %t, want %t", wheel, staff, got, want)
			}
		}
	}
	for _, p := range []impl.Plate{plate(7, 4, 0, 0), plate(4, 7, 0, 0), plate(1, 1, 0, 0), plate(1, 10000, 0, 0), plate(10000, 1, 0, 0), plate(10000, 10000, 0, 0)} {
		for _, x := range append(farNumbers(), -1, 0, 1, p.Width-1, p.Width, p.Width+1, p.Height, p.Height+1) {
			for _, y := range append(farNumbers(), -1, 0, 1, p.Height-1, p.Height, p.Height+1, p.Width, p.Width+1) {
				p.Sites = []impl.Site{site("a", x, y, 1, 1)}
				if got, want := impl.ValidPlate(p), x >= 0 && x <= p.Width && y >= 0 && y <= p.Height; got != want {
					t.Errorf("At of {%d %d} on a plate of %d and %d: got %t, want %t", x, y, p.Width, p.Height, got, want)
				}
			}
		}
	}
}

func TestPromise9NamesAndNumberOfSites(t *testing.T) {
	for count := range 25 {
		p := plateWith(slices.Repeat(pointsOf("1,1"), count))
		if got, want := impl.ValidPlate(p), count <= 20; got != want {
			t.Errorf("a plate with %d sites: got %t, want %t", count, got, want)
		}
	}
	for _, name := range []string{"a", "z", "a-", "a9", "abcdefghijkl", "great-wheel", "x--------0-"} {
		if !impl.ValidPlate(plate(1, 1, 0, 0, site("b", 0, 0, 1, 1), site(name, 1, 1, 1, 1))) {
			t.Errorf("a site named %q: got not valid", name)
		}
		if impl.ValidPlate(plate(1, 1, 0, 0, site(name, 0, 0, 1, 1), site("b", 1, 1, 2, 2), site(name, 1, 1, 1, 1))) {
			t.Errorf("two sites named %q: got valid", name)
		}
	}
}

// changedPlates are plates that differ from p in one field only, or in the order or number of sites.
func changedPlates(p impl.Plate) []impl.Plate {
	var list []impl.Plate
	for _, change := range []func(*impl.Plate){
		func(q *impl.Plate) { q.Width++ }, func(q *impl.Plate) { q.Height++ }, func(q *impl.Plate) { q.Margin++ }, func(q *impl.Plate) { q.Gap++ },
		func(q *impl.Plate) { q.Width += 1 << 32 }, func(q *impl.Plate) { q.Gap = -q.Gap - 1 },
		func(q *impl.Plate) { q.Sites = append(q.Sites, impl.Site{}) },
		func(q *impl.Plate) { q.Sites = append(q.Sites, site("more", 1, 1, 1, 1)) },
		func(q *impl.Plate) { q.Width, q.Height = q.Height+1, q.Width },
	} {
		q := ownPlate(p)
		change(&q)
		list = append(list, q)
	}
	for i := range p.Sites {
		for _, change := range []func(*impl.Site){
			func(s *impl.Site) { s.Name += "x" }, func(s *impl.Site) { s.Name = "" }, func(s *impl.Site) { s.At.X++ }, func(s *impl.Site) { s.At.Y++ }, func(s *impl.Site) { s.Wheel++ }, func(s *impl.Site) { s.Staff++ }, func(s *impl.Site) { s.Wheel -= 1 << 32 },
			func(s *impl.Site) { s.At = at(s.At.Y, s.At.X+1) }, func(s *impl.Site) { *s = impl.Site{} },
		} {
			q := ownPlate(p)
			change(&q.Sites[i])
			list = append(list, q)
		}
		without, moved := ownPlate(p), ownPlate(p)
		without.Sites = slices.Delete(without.Sites, i, i+1)
		moved.Sites[0], moved.Sites[i] = moved.Sites[i], moved.Sites[0]
		list = append(list, without)
		if i > 0 {
			list = append(list, moved)
		}
	}
	return list
}

func TestPromise9SamePlate(t *testing.T) {
	list := append(manyPlates(60), badPlates()...)
	for i, p := range list {
		if !impl.SamePlate(p, ownPlate(p)) || !impl.SamePlate(ownPlate(p), p) {
			t.Errorf("SamePlate of plate %d and its copy: got false", i)
		}
		if len(p.Sites) > 25 {
			continue
		}
		for _, other := range changedPlates(p) {
			if !equalPlates(p, other) && (impl.SamePlate(p, other) || impl.SamePlate(other, p)) {
				t.Errorf("SamePlate(%v, %v): got true", p, other)
			}
		}
	}
	for _, p := range []impl.Plate{{}, plate(5, 5, 0, 0), plate(-1, -2, -3, -4)} {
		q := p
		q.Sites = []impl.Site{}
		if !impl.SamePlate(p, q) || !impl.SamePlate(q, p) {
			t.Errorf("SamePlate of %v with nil and with empty Sites: got false", p)
		}
	}
}

func TestPromise9SquaredDistance(t *testing.T) {
	for _, c := range []struct {
		a, b impl.Point
		want int64
	}{
		{at(1, 2), at(4, 6), 25}, {at(4, 6), at(1, 2), 25}, {at(0, 0), at(0, 0), 0}, {at(7, 9), at(7, 9), 0}, {at(0, 0), at(1, 0), 1}, {at(0, 0), at(0, 1), 1}, {at(1, 0), at(0, 1), 2}, {at(5, 3), at(3, 5), 8},
		{at(0, 0), at(10000, 10000), 200000000}, {at(10000, 0), at(0, 10000), 200000000}, {at(10000, 10000), at(0, 0), 200000000}, {at(0, 0), at(10000, 0), 100000000}, {at(10000, 10000), at(10000, 9999), 1}, {at(10000, 10000), at(10000, 10000), 0},
	} {
		if got, code := impl.SquaredDistance(c.a, c.b); got != c.want || code != impl.OK {
			t.Errorf("SquaredDistance(%v, %v): got %d %d, want %d", c.a, c.b, got, code, c.want)
		}
	}
	for _, far := range append(farNumbers(), -1, -2, 10001, 10002) {
		for _, bad := range []impl.Point{at(far, 0), at(0, far), at(far, far), at(far, 10000), at(10000, far)} {
			for _, other := range []impl.Point{at(0, 0), at(10000, 10000), at(5, 5), bad, at(bad.Y, bad.X)} {
				got, code := impl.SquaredDistance(bad, other)
				back, backCode := impl.SquaredDistance(other, bad)
				if got != 0 || back != 0 || code != impl.ErrInvalid || backCode != impl.ErrInvalid {
					t.Errorf("SquaredDistance of %v and %v: got %d %d and %d %d, want ErrInvalid", bad, other, got, code, back, backCode)
				}
			}
		}
	}
}

func TestPromise9CentreDistance(t *testing.T) {
	for driver := int64(6); driver <= 240; driver += 13 {
		for driven := int64(6); driven <= 240; driven += 9 {
			for module := int64(2); module <= 200; module += 2 {
				got, code := impl.CentreDistance(impl.Pair{Driver: driver, Driven: driven}, module)
				if 2*got != module*(driver+driven) || code != impl.OK {
					t.Fatalf("CentreDistance(%d:%d, %d): got %d %d", driver, driven, module, got, code)
				}
			}
		}
	}
	for _, c := range []struct{ driver, driven, module, want, code int64 }{
		{60, 10, 20, 700, impl.OK}, {6, 6, 2, 12, impl.OK}, {240, 240, 200, 48000, impl.OK}, {6, 7, 2, 13, impl.OK}, {7, 6, 2, 13, impl.OK}, {6, 240, 200, 24600, impl.OK}, {240, 6, 198, 24354, impl.OK},
		{60, 10, -2, 0, impl.ErrRange}, {60, 10, -1, 0, impl.ErrRange}, {60, 10, 0, 0, impl.ErrRange}, {60, 10, 1, 0, impl.ErrRange}, {60, 10, 3, 0, impl.ErrRange}, {60, 10, 21, 0, impl.ErrRange}, {60, 10, 199, 0, impl.ErrRange}, {60, 10, 201, 0, impl.ErrRange}, {60, 10, 202, 0, impl.ErrRange}, {60, 11, 1, 0, impl.ErrRange}, {61, 11, 201, 0, impl.ErrRange},
	} {
		if got, code := impl.CentreDistance(impl.Pair{Driver: c.driver, Driven: c.driven}, c.module); got != c.want || code != c.code {
			t.Errorf("CentreDistance(%d:%d, %d): got %d %d, want %d %d", c.driver, c.driven, c.module, got, code, c.want, c.code)
		}
	}
	for _, module := range farNumbers() {
		if got, code := impl.CentreDistance(impl.Pair{Driver: 60, Driven: 10}, module); got != 0 || code != impl.ErrRange {
			t.Errorf("CentreDistance(60:10, %d): got %d %d, want ErrRange", module, got, code)
		}
	}
	for _, bad := range notToothCounts() {
		for _, p := range []impl.Pair{{Driver: bad, Driven: 60}, {Driver: 60, Driven: bad}, {Driver: bad, Driven: bad}} {
			for _, module := range append(farNumbers(), -2, -1, 0, 1, 2, 3, 20, 21, 199, 200, 201, 202) {
				if got, code := impl.CentreDistance(p, module); got != 0 || code != impl.ErrInvalid {
					t.Errorf("CentreDistance(%v, %d): got %d %d, want ErrInvalid", p, module, got, code)
				}
			}
		}
	}
}

// isCoordinate reports whether a number may be a coordinate of a point, or a distance.
func isCoordinate(n int64) bool { return n >= 0 && n <= 10000 }

func isPoint(p impl.Point) bool { return isCoordinate(p.X) && isCoordinate(p.Y) }

// expectThird computes ThirdPoint with numbers of any size.
func expectThird(a, b impl.Point, ra, rb int64, left bool) (impl.Point, int64) {
	switch {
	case !isPoint(a) || !isPoint(b):
		return impl.Point{}, impl.ErrInvalid
	case !isCoordinate(ra) || !isCoordinate(rb):
		return impl.Point{}, impl.ErrRange
	case a == b:
		return impl.Point{}, impl.ErrState
	}
	product := func(factors ...int64) *big.Int {
		n := big.NewInt(1)
		for _, f := range factors {
			n.Mul(n, big.NewInt(f))
		}
		return n
	}
	dx, dy := b.X-a.X, b.Y-a.Y
	d := new(big.Int).Add(product(dx, dx), product(dy, dy))
	along := new(big.Int).Sub(product(ra, ra), product(rb, rb))
	along.Add(along, d)
	s := new(big.Int).Mul(product(4, ra, ra), d)
	s.Sub(s, new(big.Int).Mul(along, along))
	if s.Sign() < 0 {
		return impl.Point{}, impl.ErrNotFound
	}
	r := s.Sqrt(s)
	if !left {
		r.Neg(r)
	}
	twice := new(big.Int).Mul(product(2), d)
	x := new(big.Int).Sub(new(big.Int).Mul(along, product(dx)), new(big.Int).Mul(r, product(dy)))
	y := new(big.Int).Add(new(big.Int).Mul(along, product(dy)), new(big.Int).Mul(r, product(dx)))
	p := at(a.X+roundOf(new(big.Rat).SetFrac(x, twice)), a.Y+roundOf(new(big.Rat).SetFrac(y, twice)))
	if !isPoint(p) {
		return impl.Point{}, impl.ErrBroken
	}
	return p, impl.OK
}

type thirdCase struct {
	a, b   impl.Point
	ra, rb int64
	left   bool
	want   impl.Point
	code   int64
}

// checkThird checks a third point for both orders of the points: what is on the left of the way from one point is on the right of the way back.
func checkThird(t *testing.T, c thirdCase) {
	t.Helper()
	if got, code := impl.ThirdPoint(c.a, c.b, c.ra, c.rb, c.left); got != c.want || code != c.code {
		t.Errorf("ThirdPoint(%v, %v, %d, %d, %t): got %v %d, want %v %d", c.a, c.b, c.ra, c.rb, c.left, got, code, c.want, c.code)
	}
	if got, code := impl.ThirdPoint(c.b, c.a, c.rb, c.ra, !c.left); got != c.want || code != c.code {
		t.Errorf("ThirdPoint(%v, %v, %d, %d, %t): got %v %d, want %v %d as in the other order", c.b, c.a, c.rb, c.ra, !c.left, got, code, c.want, c.code)
	}
}

func found(a, b impl.Point, ra, rb int64, left bool, x, y int64) thirdCase {
	return thirdCase{a, b, ra, rb, left, at(x, y), impl.OK}
}

func failed(a, b impl.Point, ra, rb int64, left bool, code int64) thirdCase {
	return thirdCase{a, b, ra, rb, left, impl.Point{}, code}
}

func TestPromise9ThirdPoint(t *testing.T) {
	o, b := at(0, 0), at(500, 0)
	for _, c := range []thirdCase{
		found(o, b, 300, 400, true, 180, 240), failed(o, b, 300, 400, false, impl.ErrBroken), found(at(0, 240), at(500, 240), 300, 400, false, 180, 0), failed(at(0, 239), at(500, 239), 300, 400, false, impl.ErrBroken),
		found(at(100, 100), at(100, 600), 300, 400, false, 340, 280), failed(at(100, 100), at(100, 600), 300, 400, true, impl.ErrBroken), found(at(240, 100), at(240, 600), 300, 400, true, 0, 280), found(at(600, 600), at(100, 600), 400, 300, true, 280, 360),
		// Circles that touch from outside, and such that miss by one.
		found(o, b, 200, 300, true, 200, 0), found(o, b, 200, 300, false, 200, 0), found(o, b, 0, 500, true, 0, 0), found(o, b, 500, 0, false, 500, 0), found(o, b, 1, 499, true, 1, 0), failed(o, b, 200, 299, true, impl.ErrNotFound), failed(o, b, 199, 300, false, impl.ErrNotFound), failed(o, b, 0, 499, true, impl.ErrNotFound), failed(o, b, 499, 0, true, impl.ErrNotFound), failed(o, b, 0, 0, true, impl.ErrNotFound), failed(o, b, 100, 100, true, impl.ErrNotFound),
		found(at(10, 20), at(310, 420), 200, 300, true, 130, 180), found(at(310, 420), at(10, 20), 200, 300, true, 190, 260), failed(at(10, 20), at(310, 420), 200, 299, true, impl.ErrNotFound), failed(at(10, 20), at(310, 420), 199, 300, true, impl.ErrNotFound),
		// Circles that touch from inside, and such that miss by one.
		found(o, b, 700, 200, true, 700, 0), found(o, b, 700, 200, false, 700, 0), failed(o, b, 701, 200, true, impl.ErrNotFound), failed(o, b, 700, 199, false, impl.ErrNotFound), found(at(200, 9), at(700, 9), 200, 700, true, 0, 9), found(at(200, 9), at(700, 9), 201, 700, true, 0, 33), failed(at(199, 9), at(699, 9), 200, 700, true, impl.ErrBroken), failed(at(200, 9), at(700, 9), 199, 700, true, impl.ErrNotFound), failed(at(200, 9), at(700, 9), 200, 701, true, impl.ErrNotFound), found(at(300, 400), at(600, 800), 500, 1000, true, 0, 0), failed(at(300, 400), at(600, 800), 499, 1000, true, impl.ErrNotFound),
		// Squared distances that are one more or one less than those of touching circles.
		failed(at(0, 0), at(10, 1), 5, 5, true, impl.ErrNotFound), found(at(0, 0), at(1, 1), 1, 1, true, 0, 1), found(at(0, 0), at(1, 1), 1, 1, false, 1, 0), failed(at(0, 0), at(1, 1), 0, 1, true, impl.ErrNotFound), failed(at(0, 0), at(1, 1), 3, 1, true, impl.ErrNotFound),
		// The same point twice.
		failed(o, o, 0, 0, true, impl.ErrState), failed(o, o, 5, 5, false, impl.ErrState), failed(b, b, 5, 6, true, impl.ErrState), failed(at(10000, 10000), at(10000, 10000), 10000, 10000, true, impl.ErrState),
		// The least distance.
		found(o, at(1, 0), 0, 1, true, 0, 0), found(o, at(0, 1), 1, 0, true, 0, 1), failed(o, at(1, 0), 0, 0, true, impl.ErrNotFound), failed(o, at(1, 0), 0, 2, true, impl.ErrNotFound), found(o, at(1, 0), 2, 1, true, 2, 0),
	} {
		checkThird(t, c)
	}
}

func TestPromise9ThirdPointsAtTheBorders(t *testing.T) {
	for _, c := range []thirdCase{
		found(at(1, 5), at(11, 5), 1, 11, true, 0, 5), failed(at(0, 5), at(10, 5), 1, 11, true, impl.ErrBroken), found(at(9989, 5), at(9999, 5), 11, 1, true, 10000, 5), failed(at(9990, 5), at(10000, 5), 11, 1, true, impl.ErrBroken),
		found(at(5, 1), at(5, 11), 1, 11, true, 5, 0), failed(at(5, 0), at(5, 10), 1, 11, true, impl.ErrBroken), found(at(5, 9989), at(5, 9999), 11, 1, false, 5, 10000), failed(at(5, 9990), at(5, 10000), 11, 1, false, impl.ErrBroken),
		found(at(100, 40), at(160, 40), 50, 50, false, 130, 0), failed(at(100, 39), at(160, 39), 50, 50, false, impl.ErrBroken), found(at(100, 9960), at(160, 9960), 50, 50, true, 130, 10000), failed(at(100, 9961), at(160, 9961), 50, 50, true, impl.ErrBroken),
		found(at(40, 100), at(40, 160), 50, 50, true, 0, 130), failed(at(39, 100), at(39, 160), 50, 50, true, impl.ErrBroken), found(at(9960, 100), at(9960, 160), 50, 50, false, 10000, 130), failed(at(9961, 100), at(9961, 160), 50, 50, false, impl.ErrBroken),
		// Half a unit behind the border is rounded to the border below it, and to the next number above it.
		found(at(0, 0), at(1, 0), 1, 1, false, 1, 0), found(at(0, 0), at(0, 1), 1, 1, true, 0, 1), failed(at(0, 10000), at(1, 10000), 1, 1, true, impl.ErrBroken), failed(at(10000, 0), at(10000, 1), 1, 1, false, impl.ErrBroken), found(at(0, 10000), at(1, 10000), 1, 1, false, 1, 10000), found(at(10000, 0), at(10000, 1), 1, 1, true, 10000, 1),
		// Far behind the border.
		failed(at(0, 0), at(10, 0), 10000, 10000, false, impl.ErrBroken), failed(at(10000, 10000), at(9990, 10000), 10000, 9995, false, impl.ErrBroken), failed(at(10000, 10000), at(9999, 10000), 9999, 10000, true, impl.ErrBroken),
		// Distances of as much as allowed.
		found(at(0, 0), at(10000, 0), 10000, 10000, true, 5000, 8660), found(at(0, 0), at(10000, 0), 10000, 0, true, 10000, 0), found(at(0, 0), at(10000, 0), 0, 10000, true, 0, 0),
	} {
		checkThird(t, c)
	}
}

func TestPromise9ThirdPointsAreRoundedToTheGreaterOneOfTwo(t *testing.T) {
	for _, c := range []thirdCase{
		// The quotients are 1/2 or -1/2.
		found(at(0, 0), at(1, 0), 1, 1, true, 1, 1), found(at(7, 7), at(8, 7), 1, 1, true, 8, 8), found(at(7, 7), at(8, 7), 1, 1, false, 8, 7), found(at(8, 7), at(7, 7), 1, 1, true, 8, 7), found(at(8, 7), at(7, 7), 1, 1, false, 8, 8), found(at(7, 7), at(7, 8), 1, 1, true, 7, 8), found(at(7, 7), at(7, 8), 1, 1, false, 8, 8),
		// They are 3/2 and -3/2 or 5/2 and 2.
		found(at(50, 50), at(53, 50), 2, 2, true, 52, 51), found(at(53, 50), at(50, 50), 2, 2, true, 52, 49), found(at(50, 50), at(55, 50), 5, 5, true, 53, 54), found(at(55, 50), at(50, 50), 5, 5, true, 53, 46), found(at(50, 50), at(50, 55), 5, 5, true, 46, 53),
		// Where circles touch: 5/2 and -5/2, with whole distances.
		found(at(50, 50), at(53, 54), 0, 5, true, 50, 50), found(at(50, 50), at(56, 58), 5, 5, true, 53, 54), found(at(56, 58), at(50, 50), 5, 5, false, 53, 54),
	} {
		checkThird(t, c)
	}
	// Points whose quotients lie exactly between two integers, of both signs and in both coordinates.
	halves := map[string]int{}
	for _, b := range []impl.Point{at(101, 100), at(100, 101), at(99, 100), at(100, 99), at(103, 100), at(97, 100), at(100, 103), at(100, 97), at(101, 101), at(103, 103), at(101, 103), at(99, 99), at(97, 99), at(105, 105)} {
		for ra := range int64(12) {
			for rb := range int64(12) {
				for _, left := range []bool{false, true} {
					want, code := expectThird(at(100, 100), b, ra, rb, left)
					checkThird(t, thirdCase{at(100, 100), b, ra, rb, left, want, code})
					if code == impl.OK {
						countHalves(halves, at(100, 100), b, ra, rb, left)
					}
				}
			}
		}
	}
	for _, kind := range []string{"x -", "x +", "y -", "y +"} {
		if halves[kind] < 5 {
			t.Errorf("%d quotients of the kind %s lay between two integers", halves[kind], kind)
		}
	}
}

// countHalves counts the quotients of ThirdPoint that lie exactly between two integers.
func countHalves(halves map[string]int, a, b impl.Point, ra, rb int64, left bool) {
	dx, dy := b.X-a.X, b.Y-a.Y
	d := dx*dx + dy*dy
	along := ra*ra - rb*rb + d
	r := new(big.Int).Sqrt(big.NewInt(4*d*ra*ra - along*along)).Int64()
	if !left {
		r = -r
	}
	for name, n := range map[string]int64{"x": along*dx - r*dy, "y": along*dy + r*dx} {
		if n%d != 0 || n/d%2 == 0 {
			continue
		}
		if n < 0 {
			halves[name+" -"]++
		} else {
			halves[name+" +"]++
		}
	}
}

func TestPromise9ThirdPointsWithTheGreatestProducts(t *testing.T) {
	c := []impl.Point{at(0, 0), at(10000, 0), at(10000, 10000), at(0, 10000)}
	for i, a := range c {
		// The corner behind is on the left of the way from a to the opposite corner.
		opposite, behind, before := c[(i+2)%4], c[(i+3)%4], c[(i+1)%4]
		checkThird(t, thirdCase{a, opposite, 10000, 10000, true, behind, impl.OK})
		checkThird(t, thirdCase{a, opposite, 10000, 10000, false, before, impl.OK})
		checkThird(t, thirdCase{a, opposite, 10000, 0, true, impl.Point{}, impl.ErrNotFound})
		checkThird(t, thirdCase{a, opposite, 0, 10000, true, impl.Point{}, impl.ErrNotFound})
		checkThird(t, thirdCase{a, opposite, 0, 0, true, impl.Point{}, impl.ErrNotFound})
		checkThird(t, thirdCase{a, before, 10000, 0, true, before, impl.OK})
		checkThird(t, thirdCase{a, before, 0, 0, true, impl.Point{}, impl.ErrNotFound})
	}
	ends := []int64{0, 1, 4999, 5000, 7071, 7072, 9999, 10000}
	for _, x := range ends {
		for _, y := range ends {
			for _, a := range []impl.Point{at(0, 0), at(10000, 0), at(10000, 10000), at(0, 10000), at(5000, 5001)} {
				for _, ra := range ends {
					for _, rb := range ends {
						for _, left := range []bool{false, true} {
							want, code := expectThird(a, at(x, y), ra, rb, left)
							checkThird(t, thirdCase{a, at(x, y), ra, rb, left, want, code})
						}
					}
				}
			}
		}
	}
}

func TestPromise9ErrorsOfThirdPointsInTheirOrder(t *testing.T) {
	for _, far := range append(farNumbers(), -1, -2, 10001, 10002) {
		for _, bad := range []impl.Point{at(far, 0), at(0, far), at(far, far), at(far, 10000)} {
			for _, c := range []thirdCase{
				{a: bad, b: at(5, 5), ra: 10, rb: 10}, {a: bad, b: bad, ra: 10, rb: 10}, {a: bad, b: bad, ra: 1, rb: 2}, {a: bad, b: at(5, 5)}, {a: bad, b: at(5, 5), ra: 10000, rb: 10000},
				{a: bad, b: at(5, 5), ra: -1}, {a: bad, b: at(5, 5), rb: 10001}, {a: bad, b: bad, ra: far, rb: far}, {a: bad, b: at(bad.Y, bad.X), ra: 3, rb: 3},
			} {
				for _, left := range []bool{false, true} {
					c.left, c.code = left, impl.ErrInvalid
					checkThird(t, c)
				}
			}
		}
		for _, c := range []thirdCase{
			{a: at(0, 0), b: at(500, 0), ra: far, rb: 400}, {a: at(0, 0), b: at(500, 0), ra: 300, rb: far}, {a: at(0, 0), b: at(500, 0), ra: far, rb: far},
			// Which would be the same point, too far, and behind the border as well.
			{a: at(7, 7), b: at(7, 7), ra: far, rb: 0}, {a: at(7, 7), b: at(7, 7), ra: far, rb: far}, {a: at(0, 0), b: at(1, 0), ra: far, rb: 0}, {a: at(0, 0), b: at(10000, 10000), ra: 0, rb: far}, {a: at(0, 0), b: at(10, 0), ra: far, rb: 10000},
		} {
			for _, left := range []bool{false, true} {
				c.left, c.code = left, impl.ErrRange
				checkThird(t, c)
			}
		}
	}
	for _, ra := range []int64{0, 1, 10000} {
		for _, rb := range []int64{0, 1, 10000} {
			for _, a := range []impl.Point{at(0, 0), at(5, 0), at(10000, 10000)} {
				checkThird(t, failed(a, a, ra, rb, true, impl.ErrState))
				checkThird(t, failed(a, a, ra, rb, false, impl.ErrState))
			}
		}
	}
	// No number less than 0 is the square of one, so what is not found is not broken either.
	checkThird(t, failed(at(0, 0), at(0, 10000), 10000, 10000, true, impl.ErrBroken))
	checkThird(t, failed(at(0, 0), at(0, 10000), 10, 10000, true, impl.ErrBroken))
	checkThird(t, failed(at(0, 0), at(0, 9000), 10, 10000, true, impl.ErrNotFound))
}

func TestPromise9ThirdPointsKeepTheirDistances(t *testing.T) {
	source := rand.New(rand.NewSource(92))
	count := map[int64]int{}
	for i := range 200000 {
		size := []int64{3, 10, 60, 1000, 10000}[i%5]
		a, b := at(source.Int63n(size+1), source.Int63n(size+1)), at(source.Int63n(size+1), source.Int63n(size+1))
		ra, rb := source.Int63n(size+1), source.Int63n(size+1)
		if i%3 == 0 {
			a, b = at(10000-a.X, 10000-a.Y), at(10000-b.X, 10000-b.Y)
		}
		left := source.Intn(2) == 0
		want, code := expectThird(a, b, ra, rb, left)
		count[code]++
		checkThird(t, thirdCase{a, b, ra, rb, left, want, code})
		// Rounding moves a point by at most the root of 1/2, and that of the root by at most 1/2.
		if code == impl.OK && (math.Abs(distance(a, want)-float64(ra)) > 1.21 || math.Abs(distance(b, want)-float64(rb)) > 1.21) {
			t.Errorf("ThirdPoint(%v, %v, %d, %d, %t): %v is %f and %f away", a, b, ra, rb, left, want, distance(a, want), distance(b, want))
		}
	}
	for _, code := range []int64{impl.OK, impl.ErrState, impl.ErrNotFound, impl.ErrBroken} {
		if count[code] < 1000 {
			t.Errorf("only %d results have the code %s", count[code], impl.CodeName(code))
		}
	}
}

func distance(a, b impl.Point) float64 { return math.Hypot(float64(a.X-b.X), float64(a.Y-b.Y)) }

func TestPromise9ThirdPointsLieOnTheirSides(t *testing.T) {
	source := rand.New(rand.NewSource(93))
	seen := 0
	for seen < 5000 {
		a, b := at(2000+source.Int63n(6000), 2000+source.Int63n(6000)), at(2000+source.Int63n(6000), 2000+source.Int63n(6000))
		ra, rb := 1000+source.Int63n(5000), 1000+source.Int63n(5000)
		for _, left := range []bool{false, true} {
			p, code := impl.ThirdPoint(a, b, ra, rb, left)
			side := (b.X-a.X)*(p.Y-a.Y) - (b.Y-a.Y)*(p.X-a.X)
			if code != impl.OK || math.Abs(float64(side)) < 3*distance(a, b) {
				continue
			}
			seen++
			if (side > 0) != left {
				t.Errorf("ThirdPoint(%v, %v, %d, %d, %t): %v is on the other side", a, b, ra, rb, left, p)
			}
		}
	}
}

// wholeDistance returns the greatest integer that is at most the distance of two points.
func wholeDistance(a, b impl.Point) int64 {
	dx, dy := big.NewInt(b.X-a.X), big.NewInt(b.Y-a.Y)
	sum := new(big.Int).Add(dx.Mul(dx, dx), dy.Mul(dy, dy))
	return sum.Sqrt(sum).Int64()
}

func expectClearance(p impl.Plate, wheel, staff int64) int64 {
	return wholeDistance(p.Sites[wheel].At, p.Sites[staff].At) - p.Sites[wheel].Wheel - p.Sites[staff].Staff
}

func TestPromise9ClearanceBetween(t *testing.T) {
	o := at(100, 100)
	for _, c := range []struct {
		a, b         impl.Point
		wheel, staff int64
		want         int64
	}{
		{o, at(200, 100), 80, 8, 12}, {o, at(200, 100), 80, 20, 0}, {o, at(200, 100), 80, 21, -1}, {o, at(200, 100), 80, 19, 1}, {o, at(100, 200), 100, 1, -1}, {o, at(100, 200), 99, 1, 0}, {o, at(0, 100), 98, 1, 1},
		{o, o, 1, 1, -2}, {o, o, 80, 8, -88}, {o, o, 10000, 1000, -11000}, {o, at(101, 100), 1, 1, -1}, {o, at(102, 100), 1, 1, 0}, {o, at(103, 100), 1, 1, 1},
		// Distances of 5 and 500, and such whose squares are one less or one more.
		{o, at(103, 104), 3, 2, 0}, {o, at(103, 104), 3, 1, 1}, {o, at(103, 104), 4, 2, -1}, {o, at(104, 103), 2, 2, 1}, {o, at(400, 500), 480, 20, 0}, {o, at(400, 500), 480, 21, -1}, {o, at(105, 101), 3, 2, 0}, {o, at(104, 104), 3, 2, 0}, {o, at(102, 104), 3, 2, -1}, {o, at(102, 104), 2, 2, 0},
		{o, at(101, 101), 1, 1, -1}, {o, at(102, 101), 1, 1, 0}, {o, at(102, 102), 1, 1, 0}, {o, at(101, 104), 2, 2, 0}, {o, at(104, 105), 4, 2, 0}, {o, at(103, 105), 3, 2, 0}, {o, at(110, 111), 10, 4, 0}, {o, at(106, 108), 9, 2, -1},
		// As far away as possible, and next to a distance of 10000.
		{at(0, 0), at(10000, 10000), 10000, 1000, 3142}, {at(10000, 0), at(0, 10000), 1, 1, 14140}, {at(0, 0), at(10000, 9999), 1, 1, 14139}, {at(0, 0), at(10000, 0), 10000, 1000, -1000}, {at(0, 0), at(10000, 1), 9999, 1, 0}, {at(0, 0), at(9999, 141), 9999, 1, -1}, {at(0, 0), at(9999, 142), 9999, 1, 0},
	} {
		p := plate(10000, 10000, 1000, 1000, site("other", 5, 5, 10000, 1000), impl.Site{Name: "a", At: c.a, Wheel: c.wheel, Staff: 1}, impl.Site{Name: "b", At: c.b, Wheel: 10000, Staff: c.staff})
		if got, code := impl.ClearanceBetween(p, 1, 2); got != c.want || code != impl.OK {
			t.Errorf("clearance of a wheel of %d at %v and a staff of %d at %v: got %d %d, want %d", c.wheel, c.a, c.staff, c.b, got, code, c.want)
		}
		p.Sites[1], p.Sites[2] = p.Sites[2], p.Sites[1]
		if got, code := impl.ClearanceBetween(p, 2, 1); got != c.want || code != impl.OK {
			t.Errorf("clearance of a wheel of %d at %v and a staff of %d at %v behind it: got %d %d, want %d", c.wheel, c.a, c.staff, c.b, got, code, c.want)
		}
	}
}

func TestPromise9ClearancesNextToWholeDistances(t *testing.T) {
	whole, less := 0, 0
	for x := range int64(10001) {
		for y := range x + 1 {
			if x > 400 && x < 9990 {
				break
			}
			p := plateWith([]impl.Point{at(10000, 10000-y), at(10000-x, 10000)})
			root, square := wholeDistance(p.Sites[0].At, p.Sites[1].At), x*x+y*y
			if root*root == square {
				whole++
			}
			if (root+1)*(root+1) == square+1 {
				less++
			}
			if got, code := impl.ClearanceBetween(p, 0, 1); got != root-2 || code != impl.OK {
				t.Errorf("clearance of sites at a squared distance of %d: got %d %d, want %d", square, got, code, root-2)
			}
		}
	}
	if whole < 50 || less < 50 {
		t.Errorf("%d distances were whole, and %d squares were one less than such a square", whole, less)
	}
}

func TestPromise9IndicesOfClearances(t *testing.T) {
	for _, p := range append(manyPlates(100), badPlates()...) {
		count := int64(len(p.Sites))
		indices := append(farNumbers(), -2, -1, 0, 1, count-2, count-1, count, count+1, 20, 21)
		for _, wheel := range indices {
			for _, staff := range indices {
				want, code := int64(0), int64(impl.OK)
				switch {
				case !isPlate(p):
					code = impl.ErrInvalid
				case wheel < 0 || wheel >= count || staff < 0 || staff >= count || wheel == staff:
					code = impl.ErrRange
				default:
					want = expectClearance(p, wheel, staff)
				}
				if got, gotCode := impl.ClearanceBetween(p, wheel, staff); got != want || gotCode != code {
					t.Fatalf("ClearanceBetween(%.300s, %d, %d): got %d %d, want %d %d", fmt.Sprint(p), wheel, staff, got, gotCode, want, code)
				}
			}
		}
	}
}

func checkClashes(t *testing.T, p impl.Plate, want ...impl.Clash) {
	t.Helper()
	if got, code := impl.Clashes(p); !slices.Equal(got, want) || code != impl.OK {
		t.Errorf("Clashes(%v): got %v %d, want %v", p, got, code, want)
	}
}

func TestPromise9Clashes(t *testing.T) {
	both := []impl.Clash{{Wheel: 0, Staff: 1}, {Wheel: 1, Staff: 0}}
	// The clearances are 12 for the wheel of a, and 60 for that of b.
	p := plate(1000, 800, 10, 5, site("a", 100, 100, 80, 10), site("b", 200, 100, 30, 8))
	for gap := range int64(100) {
		p.Gap = gap
		switch {
		case gap <= 12:
			checkClashes(t, p)
		case gap <= 60:
			checkClashes(t, p, both[0])
		default:
			checkClashes(t, p, both...)
		}
	}
	p.Sites[0], p.Sites[1] = p.Sites[1], p.Sites[0]
	p.Gap = 13
	checkClashes(t, p, both[1])
	// A clearance of 0 is no clash unless a gap is asked for, and a negative one always is.
	p = plate(100, 100, 0, 0, site("a", 10, 10, 7, 3), site("b", 20, 10, 7, 3))
	checkClashes(t, p)
	p.Gap = 1
	checkClashes(t, p, both...)
	p.Gap, p.Sites[1].Staff = 0, 4
	checkClashes(t, p, both[0])
	p.Sites[0].Staff = 4
	checkClashes(t, p, both...)
	p.Sites[1].Staff = 3
	checkClashes(t, p, both[1])
	checkClashes(t, plate(5, 5, 0, 0))
	checkClashes(t, plate(5, 5, 1000, 1000))
	checkClashes(t, plate(5, 5, 1000, 1000, site("a", 1, 1, 10000, 1000)))
	checkClashes(t, plate(10000, 10000, 1000, 1000, site("a", 0, 0, 1, 1), site("b", 1001, 0, 1, 1), site("c", 10000, 10000, 10000, 1)), impl.Clash{Wheel: 0, Staff: 1}, impl.Clash{Wheel: 1, Staff: 0})
	checkClashes(t, plate(10000, 10000, 1000, 1000, site("a", 0, 0, 1, 1), site("b", 1002, 0, 1, 1)))
	var all []impl.Clash
	for i := range int64(20) {
		for k := range int64(20) {
			if i != k {
				all = append(all, impl.Clash{Wheel: i, Staff: k})
			}
		}
	}
	checkClashes(t, plateWith(slices.Repeat(pointsOf("9,9"), 20)), all...)
}

func TestPromise9ClashesAreThoseOfTheClearances(t *testing.T) {
	one, mutual := 0, 0
	for _, p := range manyPlates(3000) {
		var want []impl.Clash
		for i := range int64(len(p.Sites)) {
			for k := range int64(len(p.Sites)) {
				if i != k && expectClearance(p, i, k) < p.Gap {
					want = append(want, impl.Clash{Wheel: i, Staff: k})
				}
			}
		}
		checkClashes(t, p, want...)
		for _, c := range want {
			if slices.Contains(want, impl.Clash{Wheel: c.Staff, Staff: c.Wheel}) {
				mutual++
			} else {
				one++
			}
		}
	}
	if one < 1000 || mutual < 1000 {
		t.Errorf("%d clashes were mutual and %d were not", mutual, one)
	}
}

func checkOutside(t *testing.T, p impl.Plate, want ...int64) {
	t.Helper()
	if got, code := impl.SitesOutside(p); !slices.Equal(got, want) || code != impl.OK {
		t.Errorf("SitesOutside(%v): got %v %d, want %v", p, got, code, want)
	}
}

func TestPromise9SitesOutside(t *testing.T) {
	// Staff + Margin is 15.
	for x := range int64(101) {
		for y := range int64(61) {
			p := plate(100, 60, 10, 0, site("inside", 50, 30, 99, 5), site("a", x, y, 99, 5), site("middle", 50, 30, 99, 5))
			if x < 15 || x > 85 || y < 15 || y > 45 {
				checkOutside(t, p, 1)
			} else {
				checkOutside(t, p)
			}
		}
	}
	checkOutside(t, plate(10000, 8000, 1000, 0, site("a", 2000, 2000, 1000, 1000), site("b", 1999, 2000, 1000, 1000), site("c", 2000, 1999, 1000, 1000), site("d", 8000, 6000, 1000, 1000), site("e", 8001, 6000, 1000, 1000), site("f", 8000, 6001, 1000, 1000)), 1, 2, 4, 5)
	// The wheel and the gap are not asked.
	checkOutside(t, plate(100, 60, 0, 1000, site("a", 1, 1, 10000, 1), site("b", 0, 1, 1, 1), site("c", 1, 0, 1, 1), site("d", 99, 59, 10000, 1), site("e", 100, 59, 1, 1), site("f", 99, 60, 1, 1), site("g", 98, 58, 3, 3)), 1, 2, 4, 5, 6)
	// A margin that no site can keep, and one that only the middle keeps.
	checkOutside(t, plate(100, 1000, 50, 0, site("a", 50, 500, 1, 1), site("b", 49, 500, 1, 1), site("c", 51, 500, 1, 1)), 0, 1, 2)
	checkOutside(t, plate(100, 1000, 49, 0, site("a", 50, 500, 1, 1), site("b", 49, 500, 1, 1), site("c", 51, 500, 1, 1), site("d", 50, 50, 1, 1), site("e", 50, 49, 1, 1)), 1, 2, 4)
	checkOutside(t, plate(1, 1, 0, 0, site("a", 0, 0, 1, 1), site("b", 1, 1, 1, 1)), 0, 1)
	checkOutside(t, plate(2, 2, 0, 0, site("a", 0, 0, 1, 1), site("b", 1, 1, 1, 1)), 0)
	checkOutside(t, plate(5, 5, 0, 0))
	checkOutside(t, plate(5, 5, 1000, 1000))
	checkOutside(t, fullPlate(), 0, 1, 2, 3, 4, 5, 6, 7, 8, 16, 17, 18, 19)
}

func TestPromise9SitesOutsideAreTooCloseToABorder(t *testing.T) {
	inside, outside := 0, 0
	for _, p := range manyPlates(3000) {
		var want []int64
		for i, s := range p.Sites {
			near := false
			for _, border := range []int64{s.At.X, p.Width - s.At.X, s.At.Y, p.Height - s.At.Y} {
				near = near || border < s.Staff+p.Margin
			}
			if near {
				want = append(want, int64(i))
			}
		}
		checkOutside(t, p, want...)
		outside += len(want)
		inside += len(p.Sites) - len(want)
	}
	if inside < 1000 || outside < 1000 {
		t.Errorf("%d sites were inside, and %d were outside", inside, outside)
	}
}

func mirrored(t *testing.T, p impl.Plate) impl.Plate {
	t.Helper()
	m, code := impl.MirrorPlate(p)
	if code != impl.OK || !impl.ValidPlate(m) {
		t.Errorf("MirrorPlate(%v): got %v %d", p, m, code)
	}
	return m
}

func turned(t *testing.T, p impl.Plate) impl.Plate {
	t.Helper()
	u, code := impl.TurnPlate(p)
	if code != impl.OK || !impl.ValidPlate(u) {
		t.Errorf("TurnPlate(%v): got %v %d", p, u, code)
	}
	return u
}

func TestPromise9MovedPlates(t *testing.T) {
	p := plate(1000, 800, 10, 5, site("a", 100, 200, 80, 10), site("b", 0, 0, 30, 8), site("c", 1000, 800, 20, 5), site("d", 1000, 0, 1, 1), site("e", 0, 800, 1, 1))
	m := plate(1000, 800, 10, 5, site("a", 900, 200, 80, 10), site("b", 1000, 0, 30, 8), site("c", 0, 800, 20, 5), site("d", 0, 0, 1, 1), site("e", 1000, 800, 1, 1))
	u := plate(800, 1000, 10, 5, site("a", 600, 100, 80, 10), site("b", 800, 0, 30, 8), site("c", 0, 1000, 20, 5), site("d", 800, 1000, 1, 1), site("e", 0, 0, 1, 1))
	if got := mirrored(t, p); !equalPlates(got, m) {
		t.Errorf("MirrorPlate: got %v, want %v", got, m)
	}
	if got := turned(t, p); !equalPlates(got, u) {
		t.Errorf("TurnPlate: got %v, want %v", got, u)
	}
	for _, p := range manyPlates(2000) {
		m, u := ownPlate(p), ownPlate(p)
		u.Width, u.Height = p.Height, p.Width
		for i, s := range p.Sites {
			m.Sites[i].At = at(p.Width-s.At.X, s.At.Y)
			u.Sites[i].At = at(p.Height-s.At.Y, s.At.X)
		}
		if got := mirrored(t, p); !equalPlates(got, m) {
			t.Errorf("MirrorPlate(%v): got %v", p, got)
		}
		if got := turned(t, p); !equalPlates(got, u) {
			t.Errorf("TurnPlate(%v): got %v", p, got)
		}
	}
}

func TestPromise9PlatesMirroredTwiceAndTurnedFourTimes(t *testing.T) {
	for _, p := range manyPlates(2000) {
		if got := mirrored(t, mirrored(t, p)); !impl.SamePlate(got, p) {
			t.Errorf("%v mirrored twice: got %v", p, got)
		}
		twice := turned(t, turned(t, p))
		if got := turned(t, turned(t, twice)); !impl.SamePlate(got, p) {
			t.Errorf("%v turned four times: got %v", p, got)
		}
		half := ownPlate(p)
		for i, s := range p.Sites {
			half.Sites[i].At = at(p.Width-s.At.X, p.Height-s.At.Y)
		}
		if !impl.SamePlate(twice, half) {
			t.Errorf("%v turned twice: got %v", p, twice)
		}
		if a, b := turned(t, mirrored(t, turned(t, p))), mirrored(t, p); !impl.SamePlate(a, b) {
			t.Errorf("%v turned, mirrored and turned: got %v, want the mirror image", p, a)
		}
	}
}

// factsOf tells what does not change when a plate is mirrored or turned: clashes, clearances, sites outside, the area and which points are corners.
func factsOf(t *testing.T, p impl.Plate) string {
	t.Helper()
	clashes, clashCode := impl.Clashes(p)
	outside, outsideCode := impl.SitesOutside(p)
	area, areaCode := impl.HullArea(p)
	corners, cornerCode := impl.HullOf(p)
	slices.Sort(corners)
	var clearances []int64
	for i := 1; i < len(p.Sites); i++ {
		c, code := impl.ClearanceBetween(p, int64(i), int64(i-1))
		clearances = append(clearances, c, code)
	}
	return fmt.Sprint(clashes, clashCode, outside, outsideCode, area, areaCode, corners, cornerCode, clearances)
}

func TestPromise9ClashesAndAreasDoNotChange(t *testing.T) {
	for _, p := range manyPlates(2000) {
		want := factsOf(t, p)
		for range 4 {
			if got := factsOf(t, mirrored(t, p)); got != want {
				t.Errorf("%v and its mirror image: got %s, want %s", p, got, want)
			}
			p = turned(t, p)
			if got := factsOf(t, p); got != want {
				t.Errorf("%v after a turn: got %s, want %s", p, got, want)
			}
		}
	}
}

func cross(a, b, c impl.Point) int64 { return (b.X-a.X)*(c.Y-a.Y) - (b.Y-a.Y)*(c.X-a.X) }

// isBeyond reports whether c is on the line of a and b, but not between them.
func isBeyond(a, b, c impl.Point) bool {
	return cross(a, b, c) == 0 && (b.X-a.X)*(c.X-a.X)+(b.Y-a.Y)*(c.Y-a.Y) < 0 || cross(a, b, c) == 0 && (a.X-b.X)*(c.X-b.X)+(a.Y-b.Y)*(c.Y-b.Y) < 0
}

// expectHull finds the edges of the hull among all pairs of points, and twice its area: all points are on the left of an edge, or between its ends.
func expectHull(points []impl.Point) ([]int64, int64) {
	if len(points) == 0 {
		return nil, 0
	}
	next, first, area := map[impl.Point]impl.Point{}, points[0], int64(0)
	for _, a := range points {
		if a.Y < first.Y || a.Y == first.Y && a.X < first.X {
			first = a
		}
		for _, b := range points {
			if _, known := next[a]; known || a == b || slices.ContainsFunc(points, func(c impl.Point) bool { return cross(a, b, c) < 0 || isBeyond(a, b, c) }) {
				continue
			}
			next[a] = b
			area += a.X*b.Y - b.X*a.Y
		}
	}
	list := []int64{int64(slices.Index(points, first))}
	for p, ok := next[first]; ok && p != first; p, ok = next[p] {
		list = append(list, int64(slices.Index(points, p)))
	}
	return list, area
}

func placesOf(p impl.Plate) []impl.Point {
	var list []impl.Point
	for _, s := range p.Sites {
		list = append(list, s.At)
	}
	return list
}

func checkHull(t *testing.T, p impl.Plate, want []int64, area int64) {
	t.Helper()
	if got, code := impl.HullOf(p); !slices.Equal(got, want) || code != impl.OK {
		t.Errorf("HullOf sites at %v: got %v %d, want %v", placesOf(p), got, code, want)
	}
	if got, code := impl.HullArea(p); got != area || code != impl.OK {
		t.Errorf("HullArea of sites at %v: got %d %d, want %d", placesOf(p), got, code, area)
	}
}

type hullCase struct {
	points string
	want   []int64
	area   int64
}

func TestPromise9HullOf(t *testing.T) {
	for _, c := range []hullCase{
		{"", nil, 0}, {"0,0", []int64{0}, 0}, {"10000,10000", []int64{0}, 0}, {"5,5 5,5", []int64{0}, 0}, {"5,5 5,5 5,5 5,5", []int64{0}, 0},
		{"0,0 10,5", []int64{0, 1}, 0}, {"10,5 0,0", []int64{1, 0}, 0}, {"10,5 0,0 10,5", []int64{1, 0}, 0}, {"0,0 10,5 0,0 10,5 10,5", []int64{0, 1}, 0},
		{"0,5 10,0", []int64{1, 0}, 0}, {"10,0 0,5", []int64{0, 1}, 0}, {"3,4 9,4", []int64{0, 1}, 0}, {"9,4 3,4", []int64{1, 0}, 0}, {"4,3 4,9", []int64{0, 1}, 0}, {"4,9 4,3", []int64{1, 0}, 0},
		// Triangles, in both directions, and with sites on the edges and inside.
		{"0,0 10,0 0,10", []int64{0, 1, 2}, 100}, {"0,0 0,10 10,0", []int64{0, 2, 1}, 100}, {"0,10 10,0 0,0", []int64{2, 1, 0}, 100}, {"5,0 0,9 10,9", []int64{0, 2, 1}, 90}, {"0,1 5,0 9,9", []int64{1, 2, 0}, 49},
		{"0,0 12,0 0,12 6,0 3,0 0,6 6,6 4,8 8,4 3,3 0,11", []int64{0, 1, 2}, 144}, {"6,6 0,6 3,3 6,0 0,0 4,8 12,0 8,4 0,12", []int64{4, 6, 8}, 144}, {"0,11 0,10 0,12 0,1 0,0 1,0 12,0 11,0", []int64{4, 6, 2}, 144}, {"6,0 0,12 12,12 6,4 3,6 9,6 6,12", []int64{0, 2, 1}, 144},
		// Rectangles, and with sites on the edges and inside.
		{"0,0 10,0 10,10 0,10", []int64{0, 1, 2, 3}, 200}, {"0,10 10,10 10,0 0,0", []int64{3, 2, 1, 0}, 200}, {"10,10 0,0 10,0 0,10", []int64{1, 2, 0, 3}, 200}, {"5,5 0,0 10,0 5,0 10,5 5,10 0,5 10,10 0,10 2,3", []int64{1, 2, 7, 8}, 200}, {"0,10 0,9 0,1 0,0 9,0 1,0 10,0 10,1 10,9 10,10 9,10 1,10", []int64{3, 6, 9, 0}, 200},
		{"5,0 10,5 5,10 0,5", []int64{0, 1, 2, 3}, 100}, {"5,0 10,5 5,10 0,5 5,5 6,1 1,6", []int64{0, 1, 2, 3}, 100}, {"4,0 8,8 0,4 12,4 6,2 2,2", []int64{0, 3, 1, 2}, 96},
		// Several lowest points, and several sites at one corner, of which the first one is meant.
		{"5,0 8,0 2,0 5,9", []int64{2, 1, 3}, 54}, {"8,0 5,9 2,0 5,0 2,0 8,0", []int64{2, 0, 1}, 54}, {"7,7 0,0 7,0 7,7 0,0 7,0 0,7 0,7", []int64{1, 2, 0, 6}, 98}, {"0,0 0,0 9,0 9,0 0,9 0,9", []int64{0, 2, 4}, 81}, {"3,3 0,9 0,0 9,0 0,9 9,0 0,0 3,3", []int64{2, 3, 1}, 81}, {"9,9 9,0 9,9 0,0 9,9 4,4", []int64{3, 1, 0}, 81},
		// Nearly on one line.
		{"0,0 5000,5000 10000,9999", []int64{0, 2, 1}, 5000}, {"0,0 5000,5000 10000,10000 5000,4999", []int64{0, 3, 2}, 10000}, {"0,0 3333,1 10000,3", []int64{0, 2, 1}, 1}, {"0,0 3334,1 10000,3", []int64{0, 1, 2}, 2}, {"0,1 10000,0 5000,1 9999,1", []int64{1, 3, 0}, 9999},
		// As great as allowed.
		{"0,0 10000,0 10000,10000 0,10000", []int64{0, 1, 2, 3}, 200000000}, {"10000,10000 0,0 10000,0", []int64{1, 2, 0}, 100000000}, {"0,10000 10000,10000 5000,0", []int64{2, 1, 0}, 100000000}, {"5000,0 10000,5000 5000,10000 0,5000 5000,5000", []int64{0, 1, 2, 3}, 100000000},
	} {
		points := pointsOf(c.points)
		checkHull(t, plateWith(points), c.want, c.area)
		if want, area := expectHull(points); !slices.Equal(want, c.want) || area != c.area {
			t.Errorf("the hull of %s: the test expects %v %d", c.points, want, area)
		}
	}
}

// orders calls f with all orders of a list.
func orders(list []impl.Point, count int, f func([]impl.Point)) {
	if count == len(list) {
		f(slices.Clone(list))
		return
	}
	for i := count; i < len(list); i++ {
		list[count], list[i] = list[i], list[count]
		orders(list, count+1, f)
		list[count], list[i] = list[i], list[count]
	}
}

func TestPromise9HullsOfSitesOnOneLine(t *testing.T) {
	for _, way := range pointsOf("1,0 0,1 1,1 1,2 2,1 3,7 1000,1 1,1000 1999,1999 1250,1250 1667,1") {
		for _, falls := range []bool{false, true} {
			for _, places := range [][]int64{{0}, {0, 0}, {0, 1}, {0, 0, 1}, {0, 1, 1}, {0, 1, 2}, {0, 1, 2, 3}, {0, 1, 4, 5}, {0, 0, 2, 2}, {0, 1, 1, 2, 5}, {0, 0, 1, 3, 3}, {0, 1, 2, 3, 4, 5}, {0, 0, 2, 2, 5, 5}} {
				var line []impl.Point
				for _, n := range places {
					where := at(n*way.X, n*way.Y)
					if falls {
						where.X = 10000 - where.X
					}
					line = append(line, where)
				}
				// The line leads upwards or to the right, or, if it falls, from the right.
				low, high := line[0], line[len(line)-1]
				if high.Y == low.Y && high.X < low.X {
					low, high = high, low
				}
				orders(line, 0, func(points []impl.Point) {
					want := []int64{int64(slices.Index(points, low))}
					if high != low {
						want = append(want, int64(slices.Index(points, high)))
					}
					checkHull(t, plateWith(points), want, 0)
				})
			}
		}
	}
}

func TestPromise9HullsOfSitesAlongBorders(t *testing.T) {
	// All sites of a plate on its four edges or on one of its edges and at one other point.
	source := rand.New(rand.NewSource(94))
	for range 3000 {
		var points []impl.Point
		size := 1 + source.Int63n(6)
		edges := 1 + source.Intn(4)
		for range source.Intn(20) {
			n := source.Int63n(size + 1)
			points = append(points, []impl.Point{at(n, 0), at(size, n), at(n, size), at(0, n)}[source.Intn(edges)])
		}
		if source.Intn(2) == 0 {
			points = append(points, at(source.Int63n(size+1), source.Int63n(size+1)))
		}
		want, area := expectHull(points)
		checkHull(t, plateWith(points), want, area)
	}
}

func TestPromise9HullsOfAllSmallPlates(t *testing.T) {
	var grid []impl.Point
	for x := range int64(3) {
		for y := range int64(3) {
			grid = append(grid, at(x, y))
		}
	}
	for count, most := 0, 1; count <= 5; count, most = count+1, most*9 {
		for number := range most {
			var points []impl.Point
			for n := number; len(points) < count; n /= 9 {
				points = append(points, grid[n%9])
			}
			want, area := expectHull(points)
			checkHull(t, plateWith(points), want, area)
		}
	}
	// Each choice of points of the grid, in this order and in the opposite one.
	for choice := range 512 {
		var points []impl.Point
		for i, where := range grid {
			if choice>>i&1 == 1 {
				points = append(points, where)
			}
		}
		for range 2 {
			want, area := expectHull(points)
			checkHull(t, plateWith(points), want, area)
			slices.Reverse(points)
		}
	}
}

func TestPromise9NoSiteLiesOutsideOfTheHull(t *testing.T) {
	corners := map[int]int{}
	for _, p := range manyPlates(6000) {
		points := placesOf(p)
		want, area := expectHull(points)
		checkHull(t, p, want, area)
		hull, _ := impl.HullOf(p)
		corners[min(len(hull), 8)]++
		for i, corner := range hull {
			a, b := points[corner], points[hull[(i+1)%len(hull)]]
			for _, c := range points {
				if cross(a, b, c) < 0 || isBeyond(a, b, c) && len(hull) > 1 {
					t.Errorf("HullOf sites at %v: got %v, but %v lies outside of it", points, hull, c)
				}
			}
		}
		if (area == 0) != (len(hull) < 3) {
			t.Errorf("sites at %v: the hull has %d corners and the area %d", points, len(hull), area)
		}
	}
	for count := range 9 {
		if corners[count] < 20 {
			t.Errorf("only %d hulls have %d corners", corners[count], count)
		}
	}
}

func TestPromise9HullsDoNotDependOnAnythingElse(t *testing.T) {
	for _, p := range manyPlates(500) {
		want, wantCode := impl.HullOf(p)
		area, areaCode := impl.HullArea(p)
		other := plateWith(placesOf(p))
		other.Margin, other.Gap = 1000, 1000
		for i := range other.Sites {
			other.Sites[i].Wheel, other.Sites[i].Staff = 10000-int64(i), 1000-int64(i)
		}
		got, code := impl.HullOf(other)
		gotArea, gotCode := impl.HullArea(other)
		if !slices.Equal(got, want) || code != wantCode || gotArea != area || gotCode != areaCode {
			t.Errorf("the hull of %v: got %v %d, but %v %d with other radii", p, want, area, got, gotArea)
		}
	}
}

func TestPromise9PlatesThatAreNotValid(t *testing.T) {
	for i, p := range badPlates() {
		list, code := impl.Clashes(p)
		outside, outsideCode := impl.SitesOutside(p)
		m, mCode := impl.MirrorPlate(p)
		u, uCode := impl.TurnPlate(p)
		hull, hullCode := impl.HullOf(p)
		area, areaCode := impl.HullArea(p)
		clearance, clearanceCode := impl.ClearanceBetween(p, 0, 1)
		other, otherCode := impl.ClearanceBetween(p, -1, -1)
		if len(list) != 0 || len(outside) != 0 || !noPlate(m) || !noPlate(u) || len(hull) != 0 || area != 0 || clearance != 0 || other != 0 {
			t.Errorf("bad plate %d, %.300s: got values", i, fmt.Sprint(p))
		}
		for _, c := range []int64{code, outsideCode, mCode, uCode, hullCode, areaCode, clearanceCode, otherCode} {
			if c != impl.ErrInvalid {
				t.Errorf("bad plate %d, %.300s: got the code %d, want ErrInvalid", i, fmt.Sprint(p), c)
			}
		}
	}
}

// plateResults calls all functions of chapter 9 that take a plate, and returns the plates and the other results.
func plateResults(p impl.Plate) ([]impl.Plate, string) {
	m, mCode := impl.MirrorPlate(p)
	u, uCode := impl.TurnPlate(p)
	clashes, clashCode := impl.Clashes(p)
	outside, outsideCode := impl.SitesOutside(p)
	hull, hullCode := impl.HullOf(p)
	area, areaCode := impl.HullArea(p)
	clearance, clearanceCode := impl.ClearanceBetween(p, 1, 0)
	all := fmt.Sprint(impl.ValidPlate(p), impl.SamePlate(p, p), mCode, uCode, clashes, clashCode, outside, outsideCode, hull, hullCode, area, areaCode, clearance, clearanceCode)
	// What is behind the end of a result is nobody's.
	clear(clashes[:cap(clashes)])
	clear(outside[:cap(outside)])
	clear(hull[:cap(hull)])
	return []impl.Plate{m, u}, all
}

func TestPromise1PlatesAreNotModified(t *testing.T) {
	for _, p := range append(manyPlates(300), badPlates()[:200]...) {
		spare := append(slices.Clone(p.Sites), site("spare", 1, 2, 3, 4), site("other", 5, 6, 7, 8))
		p.Sites = spare[:len(p.Sites)]
		whole := fmt.Sprint(p, spare)
		results, all := plateResults(p)
		var texts []string
		for _, r := range results {
			texts = append(texts, fmt.Sprint(r))
		}
		for _, r := range results {
			for i := range r.Sites[:cap(r.Sites)] {
				r.Sites[:cap(r.Sites)][i] = site("changed", 9, 9, 9, 9)
			}
		}
		if fmt.Sprint(p, spare) != whole {
			t.Errorf("an argument was changed: got %v, want %s", spare, whole)
		}
		again, allAgain := plateResults(p)
		for i, r := range again {
			if fmt.Sprint(r) != texts[i] {
				t.Errorf("result %d for %v: got %v, but %s before", i, p, r, texts[i])
			}
		}
		if allAgain != all {
			t.Errorf("results for %v: got %s, but %s before", p, allAgain, all)
		}
	}
}

func TestPromise1NilAndEmptySitesAreEquivalent(t *testing.T) {
	for _, p := range []impl.Plate{plate(5, 4, 3, 2), {}, plate(10001, 1, 0, 0)} {
		empty := p
		empty.Sites = make([]impl.Site, 0, 3)
		some, all := plateResults(p)
		others, allOthers := plateResults(empty)
		if all != allOthers || !slices.EqualFunc(some, others, equalPlates) || !impl.SamePlate(p, empty) {
			t.Errorf("nil slices lead to %v %s, empty ones to %v %s", some, all, others, allOthers)
		}
	}
}

func TestPromise1PlatesFromSeveralGoroutines(t *testing.T) {
	list := append(manyPlates(150), badPlates()[:50]...)
	var want []string
	for _, p := range list {
		results, all := plateResults(p)
		want = append(want, fmt.Sprint(results, all))
	}
	var all sync.WaitGroup
	for range 8 {
		all.Go(func() {
			for i, p := range list {
				if results, others := plateResults(p); fmt.Sprint(results, others) != want[i] {
					t.Errorf("results for %v: got %v %s, want %s", p, results, others, want[i])
				}
			}
		})
	}
	all.Wait()
}
