package tests

import (
	"fmt"
	"math/big"
	"math/rand"
	"reflect"
	"regexp"
	"slices"
	"strconv"
	"strings"
	"sync"
	"testing"

	"loop.example/g00921/impl"
)

// works returns works, which need not be valid, of arbors such as "great 64; center 8 60" and of meshes such as "0.0-1.0".
func works(arbors, meshes string) impl.Works {
	var w impl.Works
	for _, part := range strings.Split(arbors, ";") {
		words := strings.Fields(part)
		if len(words) == 0 {
			continue
		}
		a := impl.Arbor{Name: words[0]}
		for _, word := range words[1:] {
			teeth, err := strconv.ParseInt(word, 10, 64)
			if err != nil {
				panic(err)
			}
			a.Wheels = append(a.Wheels, teeth)
		}
		w.Arbors = append(w.Arbors, a)
	}
	for _, word := range strings.Fields(meshes) {
		w.Meshes = append(w.Meshes, mesh(word))
	}
	return w
}

// mesh returns the mesh of a text such as "0.0-1.0".
func mesh(s string) impl.Mesh {
	var m impl.Mesh
	if _, err := fmt.Sscanf(s, "%d.%d-%d.%d", &m.A, &m.WheelA, &m.B, &m.WheelB); err != nil {
		panic(err)
	}
	return m
}

// chain returns works of count arbors with the wheels driven and driver, each of which drives the next one.
func chain(count int, driver, driven int64) impl.Works {
	var w impl.Works
	for i := range int64(count) {
		w.Arbors = append(w.Arbors, impl.Arbor{Name: fmt.Sprintf("n%d", i), Wheels: []int64{driven, driver}})
		if i > 0 {
			w.Meshes = append(w.Meshes, impl.Mesh{A: i - 1, WheelA: 1, B: i, WheelB: 0})
		}
	}
	return w
}

// going is the example of the specification.
func going() impl.Works { return works("great 64; center 8 60; third 8", "0.0-1.0 1.1-2.0") }

// fullWorks have as many arbors, wheels and meshes as allowed, and the longest names.
func fullWorks() impl.Works {
	var w impl.Works
	for i := range int64(16) {
		w.Arbors = append(w.Arbors, impl.Arbor{Name: fmt.Sprintf("wheel-abc-%02d", i), Wheels: []int64{6, 240, 60, 8, 60}})
	}
	for i := range int64(24) {
		w.Meshes = append(w.Meshes, impl.Mesh{A: i % 16, WheelA: i / 16, B: (i + 1) % 16, WheelB: i / 16})
	}
	return w
}

// copyOf returns a deep copy without spare capacity, in which empty slices are nil.
func copyOf(w impl.Works) impl.Works {
	var c impl.Works
	for _, a := range w.Arbors {
		c.Arbors = append(c.Arbors, impl.Arbor{Name: a.Name, Wheels: append([]int64(nil), a.Wheels...)})
	}
	c.Meshes = append(c.Meshes, w.Meshes...)
	return c
}

func equalWorks(a, b impl.Works) bool { return reflect.DeepEqual(copyOf(a), copyOf(b)) }

func isNothing(w impl.Works) bool { return len(w.Arbors) == 0 && len(w.Meshes) == 0 }

var namePattern = regexp.MustCompile(`\A[a-z][a-z0-9-]{0,11}\z`)

func isArbor(a impl.Arbor) bool {
	good := namePattern.MatchString(a.Name) && len(a.Wheels) <= 5
	for _, teeth := range a.Wheels {
		good = good && teeth >= 6 && teeth <= 240
	}
	return good
}

// isMeshOf reports whether both wheels of a mesh exist, on two arbors.
func isMeshOf(w impl.Works, m impl.Mesh) bool {
	exists := map[[2]int64]bool{}
	for i, a := range w.Arbors {
		for k := range a.Wheels {
			exists[[2]int64{int64(i), int64(k)}] = true
		}
	}
	return m.A != m.B && exists[[2]int64{m.A, m.WheelA}] && exists[[2]int64{m.B, m.WheelB}]
}

// sides returns the wheels of a mesh, the lesser one first.
func sides(m impl.Mesh) [2][2]int64 {
	a, b := [2]int64{m.A, m.WheelA}, [2]int64{m.B, m.WheelB}
	if slices.Compare(a[:], b[:]) > 0 {
		return [2][2]int64{b, a}
	}
	return [2][2]int64{a, b}
}

func isWorks(w impl.Works) bool {
	if len(w.Arbors) > 16 || len(w.Meshes) > 24 {
		return false
	}
	names, meshes := map[string]bool{}, map[[2][2]int64]bool{}
	for _, a := range w.Arbors {
		if !isArbor(a) {
			return false
		}
		names[a.Name] = true
	}
	for _, m := range w.Meshes {
		if !isMeshOf(w, m) {
			return false
		}
		meshes[sides(m)] = true
	}
	return len(names) == len(w.Arbors) && len(meshes) == len(w.Meshes)
}

// badArbors are arbors each of which is not valid.
func badArbors() []impl.Arbor {
	var list []impl.Arbor
	for _, name := range []string{"", "abcdefghijklm", "1a", "9", "-", "-a", "A", "aB", "a b", " ", "a ", " a", "a_b", "a\n", "\n", "a\x00", "a\xff", "\xff", "ä", "aé", "a.b", "a/b", "a`", "{", "a:", "great wheel", strings.Repeat("a", 100000)} {
		list = append(list, impl.Arbor{Name: name}, impl.Arbor{Name: name, Wheels: []int64{60}})
	}
	for _, bad := range notToothCounts() {
		for count := 1; count <= 5; count++ {
			for place := range count {
				wheels := slices.Repeat([]int64{60}, count)
				wheels[place] = bad
				list = append(list, impl.Arbor{Name: "bad", Wheels: wheels})
			}
		}
	}
	return append(list, impl.Arbor{Name: "bad", Wheels: slices.Repeat([]int64{60}, 6)}, impl.Arbor{Name: "bad", Wheels: slices.Repeat([]int64{60}, 1000)}, impl.Arbor{Name: "1a", Wheels: slices.Repeat([]int64{5}, 6)}, impl.Arbor{})
}

// badMeshes are meshes that the example of the specification does not allow.
func badMeshes() []impl.Mesh {
	var list []impl.Mesh
	for _, s := range strings.Fields("0.0-0.0 1.0-1.1 1.0-1.0 2.0-2.0 -1.0-1.0 1.0--1.0 3.0-1.0 1.0-3.0 0.-1-1.0 0.0-1.-1 0.1-1.0 0.0-1.2 1.2-2.0 1.1-2.1 -1.-1--1.-1 3.0-3.0 -1.0--1.0 3.1-4.1") {
		list = append(list, mesh(s))
	}
	for _, far := range []int64{least, greatest, 1 << 32, -1 << 32, 1<<32 + 1, 100} {
		list = append(list, impl.Mesh{A: far, B: 1}, impl.Mesh{A: 0, B: far}, impl.Mesh{A: 0, WheelA: far, B: 1}, impl.Mesh{A: 0, B: 1, WheelB: far}, impl.Mesh{A: far, WheelA: far, B: far, WheelB: far})
	}
	return list
}

// badWorks are works each of which is not valid.
func badWorks() []impl.Works {
	list := []impl.Works{
		works("a 60; a 60", ""), works("a; b; a", ""), works("a 60; b 60; b 60", "0.0-1.0"), works("", "0.0-1.0"), works("a 60", "0.0-0.0"), works("a 60; b", "0.0-1.0"), works("a; b", "0.0-1.0"), works("a 60", "0.0-1.0"),
		works("a 60 30; b 60 30", "0.0-1.0 0.0-1.0"), works("a 60 30; b 60 30", "0.0-1.0 1.0-0.0"), works("a 60 30; b 60 30", "1.1-0.0 0.1-1.1 0.0-1.1"), works("a 60 30; b 60 30", "1.1-0.0 0.1-1.1 1.1-0.1"),
	}
	for _, a := range badArbors() {
		for place := range 3 {
			w := going()
			w.Arbors[place] = a
			list = append(list, w, impl.Works{Arbors: []impl.Arbor{a}})
		}
	}
	for _, m := range badMeshes() {
		w := going()
		w.Meshes = append(w.Meshes, m)
		v := going()
		v.Meshes[0] = m
		list = append(list, w, v, impl.Works{Meshes: []impl.Mesh{m}})
	}
	tooMany, tooDense := fullWorks(), fullWorks()
	tooMany.Arbors = append(tooMany.Arbors, impl.Arbor{Name: "more"})
	tooDense.Meshes = append(tooDense.Meshes, mesh("0.2-1.2"))
	list = append(list, tooMany, tooDense, impl.Works{Arbors: slices.Repeat([]impl.Arbor{{Name: "a"}}, 100000)}, impl.Works{Meshes: make([]impl.Mesh, 100000)})
	for place := range 16 {
		same := fullWorks()
		same.Arbors[place].Name = same.Arbors[(place+5)%16].Name
		list = append(list, same)
	}
	for place := range 24 {
		same, back := fullWorks(), fullWorks()
		m := same.Meshes[(place+7)%24]
		same.Meshes[place] = m
		back.Meshes[place] = impl.Mesh{A: m.B, WheelA: m.WheelB, B: m.A, WheelB: m.WheelA}
		list = append(list, same, back)
	}
	return list
}

// fourWheels are the wheels of an arbor whose speed is v or -v; they engage with those of the same index of others that turn in the other direction.
func fourWheels(v int64) []int64 { return []int64{72 / v, 144 / v, 180 / v, 240 / v} }

// fittingWorks have only loops that fit; the arbors turn in turn in one direction or the other one.
func fittingWorks(source *rand.Rand) impl.Works {
	speeds := []int64{1, 2, 3, 4, 6, 12}
	var w impl.Works
	count := 2 + source.Int63n(15)
	for i := range count {
		w.Arbors = append(w.Arbors, impl.Arbor{Name: fmt.Sprintf("f%d", i), Wheels: fourWheels(speeds[source.Intn(6)])})
	}
	has := map[[2][2]int64]bool{}
	for i := int64(1); len(w.Meshes) < 24 && i < count+int64(source.Intn(12)); i++ {
		m := impl.Mesh{A: source.Int63n(count), WheelA: source.Int63n(4), B: source.Int63n(count)}
		if i < count {
			m.A, m.B = i, source.Int63n(i)
		}
		// An arbor of an even index turns against those of odd ones.
		m.B += 1 - (m.A+m.B)%2
		if m.B >= count || m.A == m.B {
			m.B = 1 - m.A%2
		}
		m.WheelB = m.WheelA
		if !has[sides(m)] {
			has[sides(m)] = true
			w.Meshes = append(w.Meshes, m)
		}
	}
	return w
}

// anyWorks have any meshes, with wheels out of a choice.
func anyWorks(source *rand.Rand, choice []int64, arbors, meshes int64) impl.Works {
	var w impl.Works
	for i := range arbors {
		a := impl.Arbor{Name: fmt.Sprintf("x%d", i)}
		for range 1 + source.Intn(5) {
			a.Wheels = append(a.Wheels, choice[source.Intn(len(choice))])
		}
		w.Arbors = append(w.Arbors, a)
	}
	has := map[[2][2]int64]bool{}
	for i := int64(1); i <= meshes && arbors > 1; i++ {
		m := impl.Mesh{A: source.Int63n(arbors), B: source.Int63n(arbors)}
		if i < arbors && source.Intn(20) > 0 {
			m.A, m.B = i, max(0, i-1-source.Int63n(3))
		}
		m.WheelA, m.WheelB = source.Int63n(int64(len(w.Arbors[m.A].Wheels))), source.Int63n(int64(len(w.Arbors[m.B].Wheels)))
		if m.A != m.B && !has[sides(m)] && len(w.Meshes) < 24 {
			has[sides(m)] = true
			w.Meshes = append(w.Meshes, m)
		}
	}
	return w
}

// withLoop are works of two chains between the same arbors, and what hangs on them.
func withLoop(source *rand.Rand) impl.Works {
	w := chain(6+source.Intn(11), 239, 7)
	count := int64(len(w.Arbors))
	for i := range w.Arbors {
		w.Arbors[i].Wheels = append(w.Arbors[i].Wheels, 12)
	}
	at := int64(0)
	for range 1 + source.Intn(8) {
		next := source.Int63n(count)
		if next != at && !slices.ContainsFunc(w.Meshes, func(m impl.Mesh) bool {
			return sides(m) == sides(impl.Mesh{A: at, WheelA: 2, B: next, WheelB: 2})
		}) {
			w.Meshes = append(w.Meshes, impl.Mesh{A: at, WheelA: 2, B: next, WheelB: 2})
			at = next
		}
	}
	if source.Intn(2) == 0 {
		for i := 5; i < len(w.Meshes); i += 3 {
			w.Meshes = slices.Delete(w.Meshes, i, i+1)
		}
	}
	return w
}

// mixed returns the same works with the meshes in another order, some of them with their sides exchanged.
func mixed(w impl.Works, source *rand.Rand) impl.Works {
	w = copyOf(w)
	source.Shuffle(len(w.Meshes), func(i, k int) { w.Meshes[i], w.Meshes[k] = w.Meshes[k], w.Meshes[i] })
	for i, m := range w.Meshes {
		if source.Intn(2) == 0 {
			w.Meshes[i] = impl.Mesh{A: m.B, WheelA: m.WheelB, B: m.A, WheelB: m.WheelA}
		}
	}
	return w
}

// manyWorks are valid works of all kinds: with loops that fit and that do not, in one part and in several ones, with long paths and with many meshes.
func manyWorks(count int) []impl.Works {
	list := []impl.Works{
		{}, going(), fullWorks(), works("a", ""), works("a 6", ""), works("a 240 6 240 6 240", ""), works("a; b; c", ""), works("a 6; b 240", "0.0-1.0"), works("a 6; b 240", "1.0-0.0"),
		works("a 60 30; b 40 20", "0.0-1.0 0.1-1.1"), works("a 60 30; b 40 21", "0.0-1.0 0.1-1.1"), works("a 60 30; b 40 20", "0.0-1.0 0.0-1.1"), works("a 12; b 12; c 12", "0.0-1.0 1.0-2.0 2.0-0.0"), works("a 12; b 12; c 12; d 12", "0.0-1.0 1.0-2.0 2.0-3.0 3.0-0.0"),
		chain(16, 60, 6), chain(10, 60, 6), chain(11, 60, 6), chain(16, 60, 60), chain(16, 239, 7), chain(4, 239, 7), chain(7, 64, 8),
	}
	source := rand.New(rand.NewSource(81))
	for len(list) < count {
		var w impl.Works
		switch len(list) % 6 {
		case 0, 1:
			w = fittingWorks(source)
		case 2:
			w = fittingWorks(source)
			// One wheel more or less may fit no longer.
			w.Arbors[source.Intn(len(w.Arbors))].Wheels[source.Intn(4)] = 6 + source.Int63n(235)
		case 3:
			w = anyWorks(source, []int64{6, 8, 12, 60, 64}, 1+source.Int63n(16), source.Int63n(40))
		case 4:
			w = anyWorks(source, []int64{12, 239, 7, 240, 11}, 5+source.Int63n(12), 8+source.Int63n(17))
		case 5:
			w = withLoop(source)
		}
		if source.Intn(8) == 0 && len(w.Meshes) > 0 {
			w.Meshes = slices.Delete(w.Meshes, 0, 1)
		}
		list = append(list, mixed(w, source))
	}
	return list
}

func TestPromise8ManyWorksAreValid(t *testing.T) {
	for _, w := range manyWorks(3000) {
		if !isWorks(w) || !impl.ValidWorks(w) {
			t.Errorf("ValidWorks(%v): got %t", w, impl.ValidWorks(w))
		}
	}
	for _, w := range badWorks() {
		if isWorks(w) || impl.ValidWorks(w) {
			t.Errorf("ValidWorks(%.300v): got %t", fmt.Sprint(w), impl.ValidWorks(w))
		}
	}
}

func TestPromise8ValidWorks(t *testing.T) {
	if impl.MaxArbors != 16 || impl.MaxWheels != 5 || impl.MaxMeshes != 24 {
		t.Errorf("MaxArbors, MaxWheels, MaxMeshes: got %d %d %d", impl.MaxArbors, impl.MaxWheels, impl.MaxMeshes)
	}
	for _, c := range []struct {
		arbors, meshes string
		want           bool
	}{
		{"", "", true}, {"a", "", true}, {"a 60", "", true}, {"a; b", "", true}, {"great 64; center 8 60; third 8", "0.0-1.0 1.1-2.0", true},
		// Names of MaxName bytes and of one more, that begin with a digit or a hyphen, and with bytes that no name has.
		{"abcdefghijkl", "", true}, {"abcdefghijklm", "", false}, {"a1-9-z-", "", true}, {"1a", "", false}, {"-a", "", false}, {"a; 2", "", false}, {"A", "", false}, {"a_", "", false}, {"a.b", "", false}, {"é", "", false}, {"a\x00", "", false}, {"a\xff", "", false},
		// Wheels: their number, MinTeeth, MaxTeeth, and one tooth less and more.
		{"a 60 60 60 60 60", "", true}, {"a 60 60 60 60 60 60", "", false}, {"a 6", "", true}, {"a 5", "", false}, {"a 240", "", true}, {"a 241", "", false}, {"a 60 60 60 60 5", "", false}, {"a 241 60 60 60 60", "", false}, {"a 0", "", false}, {"a -60", "", false}, {"a 6 240", "", true},
		// Arbors with one name.
		{"a; a", "", false}, {"a 60; a 30", "", false}, {"a; b; c; a", "", false}, {"a; b; c; c", "", false}, {"a; aa; aaa", "", true}, {"a 60; b 60", "", true},
		// Meshes of wheels that are not there, and of one arbor.
		{"a 60 30; b 40", "0.0-1.0", true}, {"a 60 30; b 40", "1.0-0.0", true}, {"a 60 30; b 40", "0.1-1.0", true}, {"a 60 30; b 40", "0.2-1.0", false}, {"a 60 30; b 40", "0.-1-1.0", false}, {"a 60 30; b 40", "0.0-1.1", false}, {"a 60 30; b 40", "0.0-1.-1", false},
		{"a 60 30; b 40", "2.0-1.0", false}, {"a 60 30; b 40", "-1.0-1.0", false}, {"a 60 30; b 40", "0.0-2.0", false}, {"a 60 30; b 40", "0.0--1.0", false}, {"a 60 30; b 40", "0.0-0.0", false}, {"a 60 30; b 40", "0.0-0.1", false}, {"a 60 30; b 40", "1.0-1.0", false}, {"a 60 30; b", "0.0-1.0", false}, {"", "0.0-1.0", false},
		// Meshes that are the same, and of the same arbors with other wheels.
		{"a 60 30; b 40 20", "0.0-1.0 0.0-1.0", false}, {"a 60 30; b 40 20", "0.0-1.0 1.0-0.0", false}, {"a 60 30; b 40 20", "0.0-1.0 0.1-1.1", true}, {"a 60 30; b 40 20", "0.0-1.0 0.0-1.1", true}, {"a 60 30; b 40 20", "0.0-1.0 0.1-1.0", true}, {"a 60 30; b 40 20", "0.0-1.1 1.0-0.1", true}, {"a 60 30; b 40 20", "0.1-1.0 1.1-0.0", true},
		{"a 60 30; b 40 20", "0.0-1.0 0.0-1.1 0.1-1.0 0.1-1.1", true}, {"a 60 30; b 40 20", "0.0-1.0 0.0-1.1 0.1-1.0 0.1-1.1 1.1-0.0", false}, {"a 60 60; b 60 60", "0.0-1.1 1.0-0.1 0.0-1.0", true}, {"a 60; b 60; c 60", "0.0-1.0 1.0-2.0 2.0-0.0", true}, {"a 60; b 60; c 60", "0.0-1.0 1.0-2.0 2.0-1.0", false},
	} {
		w := works(c.arbors, c.meshes)
		if got := impl.ValidWorks(w); got != c.want || isWorks(w) != c.want {
			t.Errorf("ValidWorks(%v): got %t, want %t", w, got, c.want)
		}
	}
}

func TestPromise8LimitsOfWorks(t *testing.T) {
	full := fullWorks()
	for arbors := range 17 {
		if w := (impl.Works{Arbors: full.Arbors[:arbors]}); !impl.ValidWorks(w) {
			t.Errorf("ValidWorks of %d arbors: got false", arbors)
		}
	}
	for meshes := range 25 {
		if w := (impl.Works{Arbors: full.Arbors, Meshes: full.Meshes[:meshes]}); !impl.ValidWorks(w) {
			t.Errorf("ValidWorks of %d meshes: got false", meshes)
		}
	}
	more := fullWorks()
	more.Arbors = append(more.Arbors, impl.Arbor{Name: "one-more"})
	if impl.ValidWorks(more) || impl.ValidWorks(impl.Works{Arbors: more.Arbors}) {
		t.Error("ValidWorks of MaxArbors and one more: got true")
	}
	more = fullWorks()
	more.Meshes = append(more.Meshes, mesh("0.3-1.3"))
	if impl.ValidWorks(more) {
		t.Error("ValidWorks of MaxMeshes and one more: got true")
	}
	for b := range 256 {
		for _, name := range []string{string([]byte{byte(b)}), "a" + string([]byte{byte(b)})} {
			w := impl.Works{Arbors: []impl.Arbor{{Name: "first"}, {Name: name}}}
			if got := impl.ValidWorks(w); got != namePattern.MatchString(name) {
				t.Errorf("ValidWorks with the name %q: got %t", name, got)
			}
		}
	}
}

func TestPromise8SameWorks(t *testing.T) {
	all := append(manyWorks(60), badWorks()...)
	var copies []impl.Works
	for _, w := range all {
		copies = append(copies, copyOf(w))
	}
	for i, a := range all {
		for k, b := range all {
			if got, want := impl.SameWorks(a, b), reflect.DeepEqual(copies[i], copies[k]); got != want {
				t.Errorf("SameWorks(%.300v, %.300v): got %t, want %t", fmt.Sprint(a), fmt.Sprint(b), got, want)
			}
		}
	}
	for _, w := range []impl.Works{going(), works("a 5; a 241 6 6 6 6 6", "0.0-0.0 9.9-9.9"), fullWorks()} {
		if !impl.SameWorks(w, copyOf(w)) {
			t.Errorf("SameWorks of %v and a copy: got false", w)
		}
		for i, other := range changedWorks(w) {
			if impl.SameWorks(w, other) || impl.SameWorks(other, w) {
				t.Errorf("SameWorks of %v and its change %d, %v: got true", w, i, other)
			}
		}
	}
	empty := impl.Works{Arbors: []impl.Arbor{{Name: "a", Wheels: []int64{}}}, Meshes: []impl.Mesh{}}
	if !impl.SameWorks(empty, works("a", "")) || !impl.SameWorks(impl.Works{}, impl.Works{Arbors: []impl.Arbor{}, Meshes: []impl.Mesh{}}) {
		t.Error("SameWorks: nil and empty slices differ")
	}
}

// changedWorks are works that differ from w in one thing.
func changedWorks(w impl.Works) []impl.Works {
	var list []impl.Works
	change := func(f func(w *impl.Works)) {
		other := copyOf(w)
		f(&other)
		list = append(list, other)
	}
	change(func(w *impl.Works) { w.Arbors = append(w.Arbors, impl.Arbor{}) })
	change(func(w *impl.Works) { w.Meshes = append(w.Meshes, impl.Mesh{}) })
	change(func(w *impl.Works) { w.Arbors = w.Arbors[1:] })
	change(func(w *impl.Works) { w.Meshes = w.Meshes[:len(w.Meshes)-1] })
	change(func(w *impl.Works) { slices.Reverse(w.Arbors) })
	change(func(w *impl.Works) { slices.Reverse(w.Meshes) })
	for i, a := range w.Arbors {
		change(func(w *impl.Works) { w.Arbors[i].Name += "x" })
		change(func(w *impl.Works) { w.Arbors[i].Wheels = append(w.Arbors[i].Wheels, 0) })
		for k := range a.Wheels {
			change(func(w *impl.Works) { w.Arbors[i].Wheels[k]++ })
		}
	}
	for i := range w.Meshes {
		change(func(w *impl.Works) { w.Meshes[i].A++ })
		change(func(w *impl.Works) { w.Meshes[i].WheelA++ })
		change(func(w *impl.Works) { w.Meshes[i].B++ })
		change(func(w *impl.Works) { w.Meshes[i].WheelB++ })
	}
	return list
}

func checkAddArbor(t *testing.T, w impl.Works, a impl.Arbor, want int64) {
	t.Helper()
	got, at, code := impl.AddArbor(w, a)
	var whole impl.Works
	var index int64
	if want == impl.OK {
		whole, index = copyOf(w), int64(len(w.Arbors))
		whole.Arbors = append(whole.Arbors, a)
	}
	if !equalWorks(got, whole) || at != index || code != want {
		t.Errorf("AddArbor(%.300q, %.100q): got %v %d %d, want %v %d %d", fmt.Sprint(w), fmt.Sprint(a), got, at, code, whole, index, want)
	}
}

func TestPromise8AddArbor(t *testing.T) {
	full := fullWorks()
	almost := impl.Works{Arbors: full.Arbors[:15]}
	for _, c := range []struct {
		w    impl.Works
		a    impl.Arbor
		want int64
	}{
		{impl.Works{}, impl.Arbor{Name: "a"}, impl.OK}, {going(), impl.Arbor{Name: "fly"}, impl.OK}, {going(), impl.Arbor{Name: "fly", Wheels: []int64{6, 240, 60, 60, 7}}, impl.OK}, {going(), impl.Arbor{Name: "abcdefghijkl", Wheels: []int64{6}}, impl.OK}, {almost, impl.Arbor{Name: "last", Wheels: []int64{6}}, impl.OK},
		{going(), impl.Arbor{Name: "great"}, impl.ErrExists}, {going(), impl.Arbor{Name: "center", Wheels: []int64{60}}, impl.ErrExists}, {going(), impl.Arbor{Name: "third", Wheels: []int64{8}}, impl.ErrExists}, {going(), impl.Arbor{Name: "thir"}, impl.OK}, {going(), impl.Arbor{Name: "thirds"}, impl.OK},
		{full, impl.Arbor{Name: "more"}, impl.ErrFull}, {full, impl.Arbor{Name: "more", Wheels: []int64{240}}, impl.ErrFull}, {impl.Works{Arbors: full.Arbors}, impl.Arbor{Name: "more"}, impl.ErrFull},
		// Two errors at once: the first one of the document.
		{full, impl.Arbor{Name: full.Arbors[0].Name}, impl.ErrExists}, {full, impl.Arbor{Name: full.Arbors[15].Name, Wheels: []int64{60}}, impl.ErrExists}, {full, impl.Arbor{Name: full.Arbors[7].Name, Wheels: []int64{5}}, impl.ErrInvalid}, {full, impl.Arbor{Name: "More"}, impl.ErrInvalid}, {full, impl.Arbor{Name: "more", Wheels: []int64{241}}, impl.ErrInvalid},
		{going(), impl.Arbor{Name: "great", Wheels: slices.Repeat([]int64{6}, 6)}, impl.ErrInvalid}, {works("a; a", ""), impl.Arbor{Name: "a"}, impl.ErrInvalid}, {works("a; a", ""), impl.Arbor{Name: "A"}, impl.ErrInvalid}, {works("a 60", "0.0-1.0"), impl.Arbor{Name: "b", Wheels: []int64{60}}, impl.ErrInvalid},
	} {
		checkAddArbor(t, c.w, c.a, c.want)
	}
	for _, a := range badArbors() {
		for _, w := range []impl.Works{{}, going(), full, almost, works("bad", ""), works("a; a", "")} {
			checkAddArbor(t, w, a, impl.ErrInvalid)
		}
	}
	for _, w := range badWorks() {
		checkAddArbor(t, w, impl.Arbor{Name: "more", Wheels: []int64{60}}, impl.ErrInvalid)
		checkAddArbor(t, w, impl.Arbor{Name: "great"}, impl.ErrInvalid)
	}
	for _, w := range manyWorks(300) {
		want := int64(impl.OK)
		if len(w.Arbors) == 16 {
			want = impl.ErrFull
		}
		checkAddArbor(t, w, impl.Arbor{Name: "more", Wheels: []int64{60, 8}}, want)
		for _, a := range w.Arbors {
			checkAddArbor(t, w, a, impl.ErrExists)
		}
	}
}

func checkAddMesh(t *testing.T, w impl.Works, m impl.Mesh, want int64) {
	t.Helper()
	got, code := impl.AddMesh(w, m)
	var whole impl.Works
	if want == impl.OK {
		whole = copyOf(w)
		whole.Meshes = append(whole.Meshes, m)
	}
	if !equalWorks(got, whole) || code != want {
		t.Errorf("AddMesh(%.300v, %v): got %v %d, want %v %d", fmt.Sprint(w), m, got, code, whole, want)
	}
}

func TestPromise8AddMesh(t *testing.T) {
	full, pairs := fullWorks(), works("a 60 30; b 40 20; c", "0.0-1.0")
	almost := impl.Works{Arbors: full.Arbors, Meshes: full.Meshes[:23]}
	for _, c := range []struct {
		w    impl.Works
		mesh string
		want int64
	}{
		{pairs, "0.1-1.1", impl.OK}, {pairs, "0.0-1.1", impl.OK}, {pairs, "0.1-1.0", impl.OK}, {pairs, "1.1-0.0", impl.OK}, {pairs, "1.0-0.1", impl.OK}, {going(), "0.0-2.0", impl.OK}, {going(), "2.0-0.0", impl.OK}, {almost, "7.1-8.1", impl.OK}, {almost, "0.4-15.4", impl.OK},
		{pairs, "0.0-1.0", impl.ErrExists}, {pairs, "1.0-0.0", impl.ErrExists}, {going(), "1.0-0.0", impl.ErrExists}, {going(), "2.0-1.1", impl.ErrExists}, {going(), "1.1-2.0", impl.ErrExists},
		{pairs, "0.0-0.1", impl.ErrRange}, {pairs, "1.0-1.1", impl.ErrRange}, {pairs, "0.0-0.0", impl.ErrRange}, {pairs, "0.2-1.0", impl.ErrRange}, {pairs, "0.-1-1.0", impl.ErrRange}, {pairs, "0.0-1.2", impl.ErrRange}, {pairs, "0.0-1.-1", impl.ErrRange}, {pairs, "0.0-2.0", impl.ErrRange}, {pairs, "2.0-0.0", impl.ErrRange},
		{pairs, "-1.0-0.0", impl.ErrRange}, {pairs, "0.0--1.0", impl.ErrRange}, {pairs, "3.0-0.0", impl.ErrRange}, {pairs, "0.0-3.0", impl.ErrRange}, {impl.Works{}, "0.0-1.0", impl.ErrRange}, {impl.Works{}, "0.0-0.0", impl.ErrRange}, {works("a 60", ""), "0.0-0.0", impl.ErrRange},
		{full, "0.2-1.2", impl.ErrFull}, {full, "1.4-15.0", impl.ErrFull}, {full, "1.0-0.1", impl.ErrFull},
		// Two errors at once: the first one of the document.
		{full, "0.0-1.0", impl.ErrExists}, {full, "8.1-7.1", impl.ErrExists}, {full, "0.0-15.0", impl.ErrExists}, {full, "0.0-0.1", impl.ErrRange}, {full, "0.5-1.0", impl.ErrRange}, {full, "16.0-1.0", impl.ErrRange}, {full, "0.0--1.0", impl.ErrRange},
		{works("a; a", ""), "0.0-0.0", impl.ErrInvalid}, {works("a 60; b 60", "0.0-1.0 1.0-0.0"), "0.0-1.0", impl.ErrInvalid}, {works("a 60; b 60", "0.0-0.0"), "0.0-0.0", impl.ErrInvalid}, {works("a 60; b 60; b 60", ""), "0.0-3.0", impl.ErrInvalid}, {works("a 60; b 60 5", ""), "0.0-1.0", impl.ErrInvalid},
	} {
		checkAddMesh(t, c.w, mesh(c.mesh), c.want)
	}
	for _, m := range badMeshes() {
		checkAddMesh(t, going(), m, impl.ErrRange)
	}
	for _, w := range badWorks() {
		checkAddMesh(t, w, mesh("0.0-1.0"), impl.ErrInvalid)
		checkAddMesh(t, w, mesh("0.0-2.0"), impl.ErrInvalid)
		checkAddMesh(t, w, mesh("0.0-0.0"), impl.ErrInvalid)
	}
}

func TestPromise8AddMeshToManyWorks(t *testing.T) {
	codes := map[int64]int{}
	for _, w := range manyWorks(250) {
		has := map[[2][2]int64]bool{}
		for _, m := range w.Meshes {
			has[sides(m)] = true
		}
		for a := int64(-1); a <= int64(len(w.Arbors)); a++ {
			for b := int64(-1); b <= int64(len(w.Arbors)); b++ {
				m := impl.Mesh{A: a, WheelA: (a*3 + b) % 5, B: b, WheelB: (b*2 + a + 1) % 5}
				want := int64(impl.OK)
				switch {
				case !isMeshOf(w, m):
					want = impl.ErrRange
				case has[sides(m)]:
					want = impl.ErrExists
				case len(w.Meshes) == 24:
					want = impl.ErrFull
				}
				checkAddMesh(t, w, m, want)
				codes[want]++
			}
		}
		for _, m := range w.Meshes {
			checkAddMesh(t, w, m, impl.ErrExists)
		}
	}
	for _, code := range []int64{impl.OK, impl.ErrRange, impl.ErrExists, impl.ErrFull} {
		if codes[code] < 50 {
			t.Errorf("only %d meshes led to %s", codes[code], impl.CodeName(code))
		}
	}
}

func TestPromise8ArborNamed(t *testing.T) {
	for _, w := range manyWorks(200) {
		index := map[string]int64{}
		for i, a := range w.Arbors {
			index[a.Name] = int64(i)
		}
		for _, name := range []string{"", "a", "great", "center", "third", "fly", "x0", "x1", "x15", "f1", "f10", "n0", "n9", "n", "x", "X1", " x1", "x1 ", "x1\x00", "thirds", "wheel-abc-00", "wheel-abc-15", "wheel-abc-16", strings.Repeat("x", 1000)} {
			want, is := index[name]
			if got, ok := impl.ArborNamed(w, name); got != want || ok != is {
				t.Errorf("ArborNamed(%v, %q): got %d %t, want %d %t", w, name, got, ok, want, is)
			}
		}
	}
	for _, w := range badWorks() {
		names := []string{"", "great", "third", "bad", "a"}
		for _, a := range w.Arbors[:min(3, len(w.Arbors))] {
			names = append(names, a.Name)
		}
		for _, name := range names {
			if got, ok := impl.ArborNamed(w, name); got != 0 || ok {
				t.Errorf("ArborNamed(%.300v, %.50q): got %d %t, want none", fmt.Sprint(w), name, got, ok)
			}
		}
	}
}

func TestPromise8PairOf(t *testing.T) {
	for _, w := range append(manyWorks(200), badWorks()...) {
		count := int64(len(w.Meshes))
		for _, i := range []int64{0, 1, 2, 3, 23, count - 1, -1, count, count + 1, -2, least, greatest, 1 << 32, 24, 25} {
			var want impl.Pair
			code := int64(impl.OK)
			switch {
			case !isWorks(w):
				code = impl.ErrInvalid
			case i < 0 || i >= count:
				code = impl.ErrRange
			default:
				m := w.Meshes[i]
				want.Driver = w.Arbors[m.A].Wheels[m.WheelA]
				want.Driven = w.Arbors[m.B].Wheels[m.WheelB]
			}
			if got, gotCode := impl.PairOf(w, i); got != want || gotCode != code {
				t.Errorf("PairOf(%.300v, %d): got %v %d, want %v %d", fmt.Sprint(w), i, got, gotCode, want, code)
			}
		}
	}
}

// ratiosText returns the texts of ratios, separated by blanks.
func ratiosText(list []impl.Ratio) string {
	var words []string
	for _, r := range list {
		words = append(words, impl.RatioText(r))
	}
	return strings.Join(words, " ")
}

type worksCase struct {
	arbors, meshes string
	root           int64
	want           string
}

// checkSpeedsOf compares the texts of the speeds, or the name of the code.
func checkSpeedsOf(t *testing.T, w impl.Works, root int64, want string) {
	t.Helper()
	list, code := impl.SpeedsOf(w, root)
	got := ratiosText(list)
	if code != impl.OK {
		got = strings.TrimLeft(got+" "+impl.CodeName(code), " ")
	}
	if got != want || code != impl.OK && len(list) > 0 {
		t.Errorf("SpeedsOf(%v, %d): got %q, want %q", w, root, got, want)
	}
}

func TestPromise8SpeedsOf(t *testing.T) {
	line, square := "great 64; center 8 60; third 8", "a 12 24; b 12 36; c 12 24; d 12 36"
	for _, c := range []worksCase{
		{line, "0.0-1.0 1.1-2.0", 0, "1 -8 60"}, {line, "0.0-1.0 1.1-2.0", 1, "-1/8 1 -15/2"}, {line, "0.0-1.0 1.1-2.0", 2, "1/60 -2/15 1"}, {line, "1.0-0.0 2.0-1.1", 0, "1 -8 60"}, {line, "2.0-1.1 0.0-1.0", 0, "1 -8 60"},
		{line, "0.0-1.0 1.1-2.0", -1, "range"}, {line, "0.0-1.0 1.1-2.0", 3, "range"}, {line, "0.0-1.0 1.1-2.0", least, "range"}, {line, "0.0-1.0 1.1-2.0", greatest, "range"}, {line, "0.0-1.0 1.1-2.0", 1 << 32, "range"}, {"", "", 0, "range"}, {"", "", -1, "range"}, {"a", "", 1, "range"},
		{"a", "", 0, "1"}, {"a 6 240", "", 0, "1"}, {"a 60; b 30", "0.0-1.0", 0, "1 -2"}, {"a 60; b 30", "0.0-1.0", 1, "-1/2 1"}, {"a 60; b 30", "1.0-0.0", 0, "1 -2"}, {"a 6; b 240", "0.0-1.0", 0, "1 -1/40"}, {"a 6; b 240", "0.0-1.0", 1, "-40 1"}, {"a 60; b 60", "0.0-1.0", 0, "1 -1"},
		// A wheel that engages with several ones, and several wheels of one arbor.
		{"a 60; b 30; c 20; d 10", "0.0-1.0 0.0-2.0 0.0-3.0", 0, "1 -2 -3 -6"}, {"a 60; b 30; c 20; d 10", "0.0-1.0 0.0-2.0 0.0-3.0", 2, "-1/3 2/3 1 2"}, {"a 60 30 12; b 30; c 20; d 10", "0.0-1.0 0.1-2.0 0.2-3.0", 0, "1 -2 -3/2 -6/5"},
		// Loops of two meshes between the same arbors.
		{"a 60 30; b 40 20", "0.0-1.0 0.1-1.1", 0, "1 -3/2"}, {"a 60 30; b 40 20", "0.0-1.0 1.1-0.1", 1, "-2/3 1"}, {"a 60 30; b 40 21", "0.0-1.0 0.1-1.1", 0, "broken"}, {"a 60 30; b 40 21", "0.0-1.0 0.1-1.1", 1, "broken"}, {"a 60 30; b 40 20", "0.0-1.0 0.0-1.1", 0, "broken"}, {"a 60 30; b 40 20", "0.0-1.1 0.1-1.0", 0, "broken"},
		{"a 60 60; b 40 40", "0.0-1.0 0.0-1.1 1.0-0.1 0.1-1.1", 0, "1 -3/2"}, {"a 60 60; b 40 41", "0.0-1.0 0.1-1.0 0.1-1.1", 0, "broken"}, {"a 60 30; b 20 40", "0.0-1.0 0.1-1.1", 0, "broken"}, {"a 60 30; b 20 40", "0.0-1.1 0.1-1.0", 0, "1 -3/2"},
		// In loops of an odd number of arbors, the directions do not fit.
		{"a 12; b 12; c 12", "0.0-1.0 1.0-2.0", 0, "1 -1 1"}, {"a 12; b 12; c 12", "0.0-1.0 1.0-2.0 2.0-0.0", 0, "broken"}, {"a 60 30; b 40 60; c 20 40", "0.0-1.0 1.1-2.0 2.1-0.1", 0, "broken"}, {"a 12; b 12; c 12; d 12; e 12", "0.0-1.0 1.0-2.0 2.0-3.0 3.0-4.0 4.0-0.0", 0, "broken"}, {"a 12; b 12; c 12", "2.0-0.0 1.0-0.0 1.0-2.0", 1, "broken"},
		// Loops of four and more arbors.
		{square, "0.0-1.0 1.0-2.0 2.0-3.0 3.0-0.0", 0, "1 -1 1 -1"}, {square, "0.0-1.0 1.0-2.0 2.0-3.0 3.0-0.1", 0, "broken"}, {square, "0.1-1.0 1.0-2.1 2.1-3.0 3.0-0.1", 0, "1 -2 1 -2"}, {square, "0.1-1.1 1.1-2.1 2.1-3.1 3.1-0.1", 1, "-3/2 1 -3/2 1"}, {square, "0.1-1.1 1.1-2.1 2.1-3.1 3.1-0.1 0.0-1.0", 0, "broken"},
		{square, "0.0-1.0 2.0-3.0 1.0-2.0 0.0-3.1", 0, "broken"}, {square, "0.0-1.0 1.0-2.0 2.0-3.0 3.0-0.0 0.0-2.0", 0, "broken"}, {square, "0.0-1.0 1.0-2.0 2.0-3.0 3.0-0.0 1.0-3.0", 3, "broken"}, {square + "; e 12; f 12", "0.0-1.0 1.0-2.0 2.0-3.0 3.0-4.0 4.0-5.0 5.0-0.0 1.0-4.0", 0, "1 -1 1 -1 1 -1"}, {square + "; e 12; f 13", "0.0-1.0 1.0-2.0 2.0-3.0 3.0-4.0 4.0-5.0 5.0-0.0", 0, "1 -1 1 -1 1 -12/13"}, {square + "; e 12; f 13 13", "0.0-1.0 1.0-2.0 2.0-3.0 3.0-4.0 4.0-5.0 5.1-0.0", 0, "1 -1 1 -1 1 -12/13"}, {square + "; e 12; f 13 14", "0.0-1.0 1.0-2.0 2.0-3.0 3.0-4.0 4.0-5.0 5.1-0.0", 0, "broken"},
		// Arbors without meshes, and works in two parts, also with meshes that do not fit.
		{"a; b", "", 0, "state"}, {"a 60; b 60", "", 1, "state"}, {"a 60; b 30; c", "0.0-1.0", 0, "state"}, {"a 60; b 30; c", "0.0-1.0", 2, "state"}, {"a 60; b 30; c 60; d 20", "0.0-1.0 2.0-3.0", 0, "state"}, {"a 60; b 30; c 60; d 20", "0.0-1.0 2.0-3.0", 3, "state"},
		{"a 60 30; b 40 21; c", "0.0-1.0 0.1-1.1", 0, "state"}, {"a 60 30; b 40 21; c", "0.0-1.0 0.1-1.1", 2, "state"}, {"a 60 30; b 40 21; c 60; d 20", "0.0-1.0 0.1-1.1 2.0-3.0", 0, "state"}, {"a 60 30; b 40 21; c 60; d 20", "0.0-1.0 0.1-1.1 2.0-3.0", 3, "state"}, {"a 12; b 12; c 12; d", "0.0-1.0 1.0-2.0 2.0-0.0", 1, "state"},
		// Works that are not valid, with a root that is none.
		{"a 60; b 30", "0.0-1.0 1.0-0.0", 0, "invalid"}, {"a 60; a 30", "0.0-1.0", 0, "invalid"}, {"a 60; b 30", "0.0-0.0", 0, "invalid"}, {"a 60; b 30", "0.0-2.0", 7, "invalid"}, {"a 60; b 300", "0.0-1.0", -1, "invalid"}, {"a; a", "", 0, "invalid"},
	} {
		checkSpeedsOf(t, works(c.arbors, c.meshes), c.root, c.want)
	}
}

// alone adds an arbor without wheels, which finds no speed.
func alone(w impl.Works) impl.Works {
	w = copyOf(w)
	w.Arbors = append(w.Arbors, impl.Arbor{Name: "alone"})
	return w
}

// backward returns the same works with the meshes in reverse order.
func backward(w impl.Works) impl.Works {
	w = copyOf(w)
	slices.Reverse(w.Meshes)
	return w
}

func TestPromise8SpeedsThatAreNoRatios(t *testing.T) {
	// The greatest term is reached behind nine arbors, and passed behind ten.
	tens := "1 -10 100 -1000 10000 -100000 1000000 -10000000 100000000 -1000000000"
	for _, w := range []impl.Works{chain(10, 60, 6), backward(chain(10, 60, 6))} {
		checkSpeedsOf(t, w, 0, tens)
		checkSpeedsOf(t, w, 9, "-1/1000000000 1/100000000 -1/10000000 1/1000000 -1/100000 1/10000 -1/1000 1/100 -1/10 1")
		checkSpeedsOf(t, alone(w), 0, "state")
	}
	for _, w := range []impl.Works{chain(11, 60, 6), backward(chain(11, 60, 6)), chain(16, 60, 6), chain(5, 239, 7), chain(16, 240, 6), chain(16, 7, 239)} {
		checkSpeedsOf(t, w, 0, "range")
		checkSpeedsOf(t, w, int64(len(w.Arbors)-1), "range")
		checkSpeedsOf(t, w, -1, "range")
		if len(w.Arbors) < 16 {
			checkSpeedsOf(t, alone(w), 0, "range")
			checkSpeedsOf(t, alone(w), int64(len(w.Arbors)), "state")
		}
		unfit := copyOf(w)
		unfit.Meshes = append(unfit.Meshes, mesh("0.0-1.0"))
		checkSpeedsOf(t, unfit, 0, "range")
	}
	checkSpeedsOf(t, chain(11, 60, 6), 5, "-1/100000 1/10000 -1/1000 1/100 -1/10 1 -10 100 -1000 10000 -100000")
	checkSpeedsOf(t, chain(4, 239, 7), 0, "1 -239/7 57121/49 -13651919/343")
	// The mesh of d and e finds no speed; the one that would fit it is no valid ratio.
	for _, meshes := range []string{"0.1-1.0 1.1-2.0 2.1-3.0 0.2-4.1 3.1-4.0", "0.1-1.0 1.1-2.0 2.1-3.0 0.2-4.1 4.0-3.1", "3.1-4.0 0.1-1.0 1.1-2.0 2.1-3.0 0.2-4.1"} {
		w := works("a 7 239 12; b 7 239; c 7 239; d 7 239; e 7 12", meshes)
		checkSpeedsOf(t, w, 0, "broken")
		checkSpeedsOf(t, alone(w), 0, "state")
	}
}

func TestPromise8RoundsFindSpeeds(t *testing.T) {
	long := strings.TrimSpace(strings.Repeat("1 -1 ", 8))
	for _, w := range []impl.Works{chain(16, 60, 60), backward(chain(16, 60, 60))} {
		checkSpeedsOf(t, w, 0, long)
		checkSpeedsOf(t, w, 14, long)
	}
	// The arbor e is behind d and wheels of the same size, or behind a, b and c, with a speed that is no valid ratio.
	arbors := "root 239 12; a 7 239; b 7 239; c 7 239; e 7 12; d 12"
	for _, c := range []struct{ meshes, want string }{
		// In the first round, e is found by the mesh of the longer path, since its meshes are in order.
		{"0.0-1.0 1.1-2.0 2.1-3.0 3.1-4.0 0.1-5.0 5.0-4.1", "range"},
		{"5.0-4.1 0.1-5.0 0.0-1.0 1.1-2.0 2.1-3.0 3.1-4.0", "range"},
		{"0.0-1.0 1.1-2.0 0.1-5.0 2.1-3.0 3.1-4.0 5.0-4.1", "range"},
		{"4.0-3.1 0.0-1.0 1.1-2.0 2.1-3.0 5.0-4.1 0.1-5.0", "range"},
		// Here it is found by the shorter one, and then the last mesh of the longer one does not fit.
		{"0.1-5.0 5.0-4.1 0.0-1.0 1.1-2.0 2.1-3.0 3.1-4.0", "broken"},
		{"0.0-1.0 1.1-2.0 2.1-3.0 0.1-5.0 5.0-4.1 3.1-4.0", "broken"},
		{"3.1-4.0 2.1-3.0 1.1-2.0 0.0-1.0 5.0-4.1 0.1-5.0", "broken"},
		{"3.1-4.0 0.1-5.0 2.1-3.0 4.1-5.0 1.1-2.0 0.0-1.0", "broken"},
		// The same meshes with one of them missing.
		{"0.0-1.0 1.1-2.0 2.1-3.0 3.1-4.0 0.1-5.0", "range"}, {"0.0-1.0 1.1-2.0 2.1-3.0 3.1-4.0 5.0-4.1", "range"}, {"5.0-4.1 0.1-5.0 0.0-1.0 1.1-2.0 2.1-3.0", "1 -239/7 57121/49 -13651919/343 1 -1"}, {"3.1-4.0 2.1-3.0 5.0-4.1 0.1-5.0", "state"},
		{"3.1-4.0 2.1-3.0 1.1-2.0 5.0-4.1 0.1-5.0", "1 -343/13651919 49/57121 -7/239 1 -1"},
	} {
		checkSpeedsOf(t, works(arbors, c.meshes), 0, c.want)
	}
}

// expectSpeeds returns what SpeedsOf should return for valid works and an arbor of them, and how many rounds find a speed.
func expectSpeeds(w impl.Works, root int64) ([]impl.Ratio, int64, int) {
	speeds := make([]*big.Rat, len(w.Arbors))
	speeds[root] = big.NewRat(1, 1)
	rounds := 0
	for found := true; found; {
		found = false
		for _, m := range w.Meshes {
			a, b := m.A, m.B
			t, u := w.Arbors[a].Wheels[m.WheelA], w.Arbors[b].Wheels[m.WheelB]
			if speeds[a] == nil {
				a, b, t, u = b, a, u, t
			}
			if speeds[a] == nil || speeds[b] != nil {
				continue
			}
			speeds[b] = new(big.Rat).Mul(speeds[a], big.NewRat(-t, u))
			if _, ok := exactly(speeds[b]); !ok {
				return nil, impl.ErrRange, rounds
			}
			found = true
		}
		if found {
			rounds++
		}
	}
	if slices.Contains(speeds, nil) {
		return nil, impl.ErrState, rounds
	}
	var list []impl.Ratio
	for _, v := range speeds {
		r, _ := exactly(v)
		list = append(list, r)
	}
	if !allEngage(w, list) {
		return nil, impl.ErrBroken, rounds
	}
	return list, impl.OK, rounds
}

// allEngage reports whether as many teeth of both wheels of each mesh pass in the same time, in opposite directions.
func allEngage(w impl.Works, speeds []impl.Ratio) bool {
	for _, m := range w.Meshes {
		a := new(big.Rat).Mul(bigOf(speeds[m.A]), big.NewRat(w.Arbors[m.A].Wheels[m.WheelA], 1))
		b := new(big.Rat).Mul(bigOf(speeds[m.B]), big.NewRat(w.Arbors[m.B].Wheels[m.WheelB], 1))
		if a.Neg(a).Cmp(b) != 0 {
			return false
		}
	}
	return true
}

func TestPromise8WheelsThatEngageFitEachOther(t *testing.T) {
	codes, rounds := map[int64]int{}, map[int]int{}
	loops := 0
	for _, w := range manyWorks(6000) {
		for root := range int64(len(w.Arbors)) {
			want, wantCode, count := expectSpeeds(w, root)
			got, code := impl.SpeedsOf(w, root)
			if !slices.Equal(got, want) || code != wantCode {
				t.Errorf("SpeedsOf(%v, %d): got %v %d, want %v %d", w, root, got, code, want, wantCode)
			}
			codes[code]++
			rounds[min(count, 4)]++
			if code != impl.OK {
				continue
			}
			if got[root] != over(1, 1) || !allEngage(w, got) {
				t.Errorf("SpeedsOf(%v, %d): got %v, which do not fit", w, root, got)
			}
			if len(w.Meshes) >= len(w.Arbors) {
				loops++
			}
		}
		for _, root := range []int64{-1, int64(len(w.Arbors)), least, greatest} {
			if got, code := impl.SpeedsOf(w, root); len(got) > 0 || code != impl.ErrRange {
				t.Errorf("SpeedsOf(%v, %d): got %v %d, want ErrRange", w, root, got, code)
			}
		}
	}
	for _, code := range []int64{impl.OK, impl.ErrRange, impl.ErrState, impl.ErrBroken} {
		if codes[code] < 500 {
			t.Errorf("only %d works led to %s", codes[code], impl.CodeName(code))
		}
	}
	if loops < 500 || rounds[1] < 500 || rounds[2] < 500 || rounds[3] < 500 || rounds[4] < 500 {
		t.Errorf("%d works with loops fit; rounds: %v", loops, rounds)
	}
}

func TestPromise8SpeedsDependOnTheRootOnly(t *testing.T) {
	source := rand.New(rand.NewSource(82))
	compared := 0
	for _, w := range manyWorks(600) {
		for root := range int64(len(w.Arbors)) {
			speeds, code := impl.SpeedsOf(w, root)
			if code != impl.OK {
				continue
			}
			// If all meshes fit, neither their order nor their sides play a role.
			if again, code := impl.SpeedsOf(mixed(w, source), root); !slices.Equal(again, speeds) || code != impl.OK {
				t.Errorf("SpeedsOf(%v, %d): got %v, but %v %d with the meshes in another order", w, root, speeds, again, code)
			}
			for other := range int64(len(w.Arbors)) {
				seen, code := impl.SpeedsOf(w, other)
				if code != impl.OK {
					continue
				}
				for i := range seen {
					compared++
					if new(big.Rat).Mul(bigOf(seen[i]), bigOf(speeds[other])).Cmp(bigOf(speeds[i])) != 0 {
						t.Errorf("the speeds of %v are %v for %d, but %v for %d", w, speeds, root, seen, other)
						break
					}
				}
			}
		}
	}
	if compared < 5000 {
		t.Errorf("only %d speeds were compared", compared)
	}
}

// checkPath compares the path, or the name of the code, in the form of "[0 1]" or "range".
func checkPath(t *testing.T, w impl.Works, from, to int64, want string) {
	t.Helper()
	list, code := impl.PathBetween(w, from, to)
	got := fmt.Sprint(list)
	if code != impl.OK && len(list) == 0 {
		got = impl.CodeName(code)
	}
	if got != want {
		t.Errorf("PathBetween(%v, %d, %d): got %s (code %d), want %s", w, from, to, got, code, want)
	}
}

func TestPromise8PathBetween(t *testing.T) {
	two, square := "a 60 30; b 40 20", "a 12; b 12; c 12; d 12"
	for _, c := range []struct {
		arbors, meshes string
		from, to       int64
		want           string
	}{
		{"great 64; center 8 60; third 8", "0.0-1.0 1.1-2.0", 0, 2, "[0 1]"}, {"great 64; center 8 60; third 8", "0.0-1.0 1.1-2.0", 2, 0, "[1 0]"}, {"great 64; center 8 60; third 8", "1.0-0.0 2.0-1.1", 0, 2, "[0 1]"}, {"great 64; center 8 60; third 8", "2.0-1.1 0.0-1.0", 0, 2, "[1 0]"},
		// From an arbor to itself.
		{"a", "", 0, 0, "[]"}, {"a; b", "", 1, 1, "[]"}, {square, "0.0-1.0 1.0-2.0 2.0-3.0 3.0-0.0", 2, 2, "[]"}, {two, "0.0-1.0 0.1-1.1", 0, 0, "[]"},
		// Indices that are none.
		{two, "0.0-1.0", -1, 0, "range"}, {two, "0.0-1.0", 0, -1, "range"}, {two, "0.0-1.0", 2, 0, "range"}, {two, "0.0-1.0", 0, 2, "range"}, {two, "0.0-1.0", -1, -1, "range"}, {two, "0.0-1.0", 2, 2, "range"}, {two, "", -1, 2, "range"}, {"", "", 0, 0, "range"}, {two, "", least, greatest, "range"}, {two, "0.0-1.0", 1 << 32, 1, "range"}, {two, "0.0-1.0", 0, 1<<32 + 1, "range"},
		// Works in several parts.
		{"a; b", "", 0, 1, "not-found"}, {"a 60; b 30; c", "0.0-1.0", 0, 2, "not-found"}, {"a 60; b 30; c", "0.0-1.0", 2, 0, "not-found"}, {"a 60; b 30; c", "0.0-1.0", 1, 0, "[0]"}, {square, "0.0-1.0 2.0-3.0", 0, 3, "not-found"}, {square, "0.0-1.0 2.0-3.0", 3, 2, "[1]"}, {square, "0.0-1.0 2.0-3.0", 3, 4, "range"},
		// Several meshes between the same arbors.
		{two, "0.0-1.0 0.1-1.1", 0, 1, "[0]"}, {two, "0.1-1.1 0.0-1.0", 1, 0, "[0]"}, {two + "; c 12", "1.0-2.0 0.0-1.0 1.1-0.1 2.0-1.1", 0, 2, "[1 0]"}, {two + "; c 12", "1.0-2.0 0.0-1.0 1.1-0.1 2.0-1.1", 2, 0, "[0 1]"},
		// Paths of the same length: the least list, from either end.
		{square, "0.0-1.0 0.0-2.0 2.0-3.0 1.0-3.0", 0, 3, "[0 3]"}, {square, "0.0-1.0 0.0-2.0 2.0-3.0 1.0-3.0", 3, 0, "[2 1]"}, {square, "1.0-3.0 2.0-3.0 0.0-2.0 0.0-1.0", 0, 3, "[2 1]"}, {square, "1.0-3.0 2.0-3.0 0.0-2.0 0.0-1.0", 3, 0, "[0 3]"}, {square, "0.0-2.0 0.0-1.0 1.0-3.0 2.0-3.0", 0, 3, "[0 3]"}, {square, "0.0-2.0 0.0-1.0 1.0-3.0 2.0-3.0", 3, 0, "[2 1]"},
		{square + "; e 12; f 12", "0.0-5.0 0.0-4.0 4.0-3.0 5.0-2.0 2.0-1.0 3.0-1.0", 0, 1, "[0 3 4]"}, {square + "; e 12; f 12", "0.0-5.0 0.0-4.0 4.0-3.0 5.0-2.0 2.0-1.0 3.0-1.0", 1, 0, "[4 3 0]"}, {square + "; e 12; f 12", "4.0-3.0 5.0-2.0 0.0-5.0 0.0-4.0 2.0-1.0 3.0-1.0", 0, 1, "[2 1 4]"}, {square + "; e 12; f 12", "4.0-3.0 5.0-2.0 0.0-5.0 0.0-4.0 3.0-1.0 2.0-1.0", 1, 0, "[4 0 3]"},
		// The shortest path is not the one with the least indices.
		{square, "0.0-1.0 1.0-2.0 2.0-3.0 0.0-3.0", 0, 3, "[3]"}, {square, "0.0-1.0 1.0-2.0 2.0-3.0 0.0-3.0", 3, 1, "[2 1]"}, {square, "0.0-1.0 1.0-2.0 2.0-3.0 3.0-0.0", 1, 3, "[0 3]"}, {square, "0.0-1.0 1.0-2.0 0.0-2.0 2.0-3.0", 0, 3, "[2 3]"},
		// Works that are not valid.
		{"a; a", "", 0, 0, "invalid"}, {"a; a", "", 0, 1, "invalid"}, {"a 12; b 12", "0.0-0.0", 0, 1, "invalid"}, {"a 12; b 12", "0.0-1.0 0.0-1.0", 0, 7, "invalid"}, {"a 12; b 5", "0.0-1.0", -1, -1, "invalid"},
	} {
		checkPath(t, works(c.arbors, c.meshes), c.from, c.to, c.want)
	}
	checkPath(t, chain(16, 239, 7), 0, 15, "[0 1 2 3 4 5 6 7 8 9 10 11 12 13 14]")
	checkPath(t, chain(16, 239, 7), 15, 0, "[14 13 12 11 10 9 8 7 6 5 4 3 2 1 0]")
	checkPath(t, backward(chain(16, 239, 7)), 3, 6, "[11 10 9]")
	checkPath(t, fullWorks(), 0, 8, "[0 1 2 3 4 5 6 7]")
	checkPath(t, fullWorks(), 8, 0, "[7 6 5 4 3 2 1 0]")
	checkPath(t, fullWorks(), 15, 7, "[14 13 12 11 10 9 8 7]")
}

// tryPaths extends a path by count meshes in all ways, the least ones first, until it leads to an arbor.
func tryPaths(w impl.Works, path []int64, seen []int64, to int64, count int) []int64 {
	at := seen[len(seen)-1]
	if count == 0 {
		if at == to {
			return path
		}
		return nil
	}
	for i, m := range w.Meshes {
		next := m.A + m.B - at
		if m.A != at && m.B != at || slices.Contains(seen, next) {
			continue
		}
		if longer := tryPaths(w, append(slices.Clone(path), int64(i)), append(slices.Clone(seen), next), to, count-1); longer != nil {
			return longer
		}
	}
	return nil
}

// areJoined reports whether there is a path between two arbors.
func areJoined(w impl.Works, from, to int64) bool {
	part := make([]int, len(w.Arbors))
	for i := range part {
		part[i] = i
	}
	for range w.Arbors {
		for _, m := range w.Meshes {
			least := min(part[m.A], part[m.B])
			part[m.A], part[m.B] = least, least
		}
	}
	return part[from] == part[to]
}

// expectPath returns what PathBetween should return for valid works and arbors of them.
func expectPath(w impl.Works, from, to int64) ([]int64, int64) {
	if !areJoined(w, from, to) {
		return nil, impl.ErrNotFound
	}
	for count := 0; ; count++ {
		if path := tryPaths(w, []int64{}, []int64{from}, to, count); path != nil {
			return path, impl.OK
		}
	}
}

// expectTrain returns what TrainBetween should return for a path.
func expectTrain(w impl.Works, from int64, path []int64) ([]impl.Pair, int64) {
	if len(path) > 5 {
		return nil, impl.ErrFull
	}
	var list []impl.Pair
	for _, i := range path {
		m := w.Meshes[i]
		p := impl.Pair{Driver: w.Arbors[m.A].Wheels[m.WheelA], Driven: w.Arbors[m.B].Wheels[m.WheelB]}
		if m.B == from {
			p.Driver, p.Driven = p.Driven, p.Driver
		}
		from = m.A + m.B - from
		list = append(list, p)
	}
	return list, impl.OK
}

func TestPromise8PathsAreTheLeastOfTheShortest(t *testing.T) {
	lengths, codes := map[int]int{}, map[int64]int{}
	for _, w := range manyWorks(1500) {
		for from := range int64(len(w.Arbors)) {
			for to := range int64(len(w.Arbors)) {
				path, code := expectPath(w, from, to)
				if got, gotCode := impl.PathBetween(w, from, to); !slices.Equal(got, path) || gotCode != code {
					t.Errorf("PathBetween(%v, %d, %d): got %v %d, want %v %d", w, from, to, got, gotCode, path, code)
				}
				var list []impl.Pair
				if code == impl.OK {
					lengths[len(path)]++
					list, code = expectTrain(w, from, path)
				}
				if got, gotCode := impl.TrainBetween(w, from, to); !slices.Equal(got, list) || gotCode != code {
					t.Errorf("TrainBetween(%v, %d, %d): got %v %d, want %v %d", w, from, to, got, gotCode, list, code)
				}
				codes[code]++
			}
		}
	}
	for length := range 9 {
		if lengths[length] < 200 {
			t.Errorf("only %d paths have the length %d", lengths[length], length)
		}
	}
	if codes[impl.ErrNotFound] < 1000 || codes[impl.ErrFull] < 1000 {
		t.Errorf("codes: %v", codes)
	}
}

func TestPromise8PathsOutOfRange(t *testing.T) {
	for _, w := range append(manyWorks(60), badWorks()...) {
		want := int64(impl.ErrRange)
		if !isWorks(w) {
			want = impl.ErrInvalid
		}
		count := int64(len(w.Arbors))
		for _, bad := range []int64{-1, count, count + 1, least, greatest, 1 << 32} {
			for _, ends := range [][2]int64{{bad, 0}, {0, bad}, {bad, bad}, {bad, count - 1}, {count - 1, bad}, {bad, -1}} {
				if path, code := impl.PathBetween(w, ends[0], ends[1]); len(path) > 0 || code != want {
					t.Errorf("PathBetween(%.300v, %v): got %v %d, want %d", fmt.Sprint(w), ends, path, code, want)
				}
				if list, code := impl.TrainBetween(w, ends[0], ends[1]); len(list) > 0 || code != want {
					t.Errorf("TrainBetween(%.300v, %v): got %v %d, want %d", fmt.Sprint(w), ends, list, code, want)
				}
			}
		}
	}
	for _, w := range badWorks() {
		for _, ends := range [][2]int64{{0, 0}, {0, 1}, {1, 0}, {2, 0}} {
			path, pathCode := impl.PathBetween(w, ends[0], ends[1])
			list, trainCode := impl.TrainBetween(w, ends[0], ends[1])
			speeds, speedsCode := impl.SpeedsOf(w, ends[0])
			if len(path)+len(list)+len(speeds) > 0 || pathCode != impl.ErrInvalid || trainCode != impl.ErrInvalid || speedsCode != impl.ErrInvalid {
				t.Errorf("path, train and speeds of %.300v: got %v %d %v %d %v %d", fmt.Sprint(w), path, pathCode, list, trainCode, speeds, speedsCode)
			}
		}
	}
}

func TestPromise8TrainBetween(t *testing.T) {
	loop := "a 60 30; b 40 20; c 50 10"
	for _, c := range []struct {
		w        impl.Works
		from, to int64
		want     string
	}{
		{going(), 0, 2, "64:8 60:8"}, {going(), 2, 0, "8:60 8:64"}, {going(), 0, 1, "64:8"}, {going(), 1, 0, "8:64"}, {going(), 1, 2, "60:8"}, {going(), 1, 1, "-"}, {works("a", ""), 0, 0, "-"},
		// Against the direction of the meshes, in part.
		{works("great 64; center 8 60; third 8", "1.0-0.0 1.1-2.0"), 0, 2, "64:8 60:8"}, {works("great 64; center 8 60; third 8", "1.0-0.0 2.0-1.1"), 2, 0, "8:60 8:64"}, {works("great 64; center 8 60; third 8", "2.0-1.1 0.0-1.0"), 0, 2, "64:8 60:8"},
		// Works that do not fit, or with speeds that are no valid ratios, have trains nevertheless.
		{works("a 60 30; b 40 21", "0.0-1.0 0.1-1.1"), 0, 1, "60:40"}, {works("a 60 30; b 40 21", "0.1-1.1 0.0-1.0"), 1, 0, "21:30"}, {works(loop, "0.0-1.0 1.1-2.1 2.0-0.1"), 0, 2, "30:50"}, {works(loop, "0.0-1.0 1.1-2.1 2.0-0.1"), 2, 0, "50:30"}, {chain(16, 239, 7), 0, 5, "239:7 239:7 239:7 239:7 239:7"}, {alone(going()), 2, 0, "8:60 8:64"},
		// As many pairs as MaxStages, and one more.
		{chain(16, 64, 8), 0, 5, "64:8 64:8 64:8 64:8 64:8"}, {chain(16, 64, 8), 5, 0, "8:64 8:64 8:64 8:64 8:64"}, {chain(16, 64, 8), 0, 6, "full"}, {chain(16, 64, 8), 6, 0, "full"}, {chain(16, 64, 8), 15, 0, "full"}, {chain(16, 64, 8), 15, 10, "8:64 8:64 8:64 8:64 8:64"}, {fullWorks(), 0, 5, "6:6 6:6 6:6 6:6 6:6"}, {fullWorks(), 0, 8, "full"},
		{alone(chain(7, 64, 8)), 0, 6, "full"}, {alone(chain(7, 64, 8)), 0, 7, "not-found"}, {alone(chain(7, 64, 8)), 7, 6, "not-found"}, {alone(chain(7, 64, 8)), 8, 0, "range"}, {alone(chain(7, 64, 8)), 0, -1, "range"}, {chain(7, 64, 5), 0, 6, "invalid"}, {chain(17, 64, 8), 0, 16, "invalid"}, {chain(17, 64, 8), -1, 17, "invalid"},
	} {
		list, code := impl.TrainBetween(c.w, c.from, c.to)
		got := impl.TrainText(list)
		if code != impl.OK && len(list) == 0 {
			got = impl.CodeName(code)
		}
		if got != c.want {
			t.Errorf("TrainBetween(%v, %d, %d): got %s (code %d), want %s", c.w, c.from, c.to, got, code, c.want)
		}
	}
}

func TestPromise8TrainsLeadToTheSpeedsOfTheirEnds(t *testing.T) {
	compared := 0
	for _, w := range manyWorks(1500) {
		for from := range int64(len(w.Arbors)) {
			speeds, code := impl.SpeedsOf(w, from)
			if code != impl.OK {
				continue
			}
			for to := range int64(len(w.Arbors)) {
				list, code := impl.TrainBetween(w, from, to)
				if path, pathCode := impl.PathBetween(w, from, to); pathCode != impl.OK || code != impl.OK && code != impl.ErrFull || (code == impl.ErrFull) != (len(path) > 5) {
					t.Errorf("PathBetween(%v, %d, %d): got %v %d, and TrainBetween %d", w, from, to, path, pathCode, code)
				}
				if code != impl.OK {
					continue
				}
				compared++
				if turns, code := impl.TrainRatio(list); turns != speeds[to] || code != impl.OK {
					t.Errorf("TrainBetween(%v, %d, %d): got %v, which leads to %v %d, but the speed is %v", w, from, to, list, turns, code, speeds[to])
				}
			}
		}
	}
	if compared < 10000 {
		t.Errorf("only %d trains were compared", compared)
	}
}

// textOf returns the text of valid works.
func textOf(w impl.Works) string {
	var text strings.Builder
	for _, a := range w.Arbors {
		fmt.Fprintf(&text, "arbor %s", a.Name)
		for _, teeth := range a.Wheels {
			fmt.Fprintf(&text, " %d", teeth)
		}
		fmt.Fprintln(&text)
	}
	for _, m := range w.Meshes {
		fmt.Fprintf(&text, "mesh %s %d %s %d\n", w.Arbors[m.A].Name, m.WheelA, w.Arbors[m.B].Name, m.WheelB)
	}
	return text.String()
}

func TestPromise8WorksText(t *testing.T) {
	for _, c := range []struct{ arbors, meshes, want string }{
		{"", "", ""}, {"a", "", "arbor a\n"}, {"a 6", "", "arbor a 6\n"}, {"a 240 6 60 6 240; b", "", "arbor a 240 6 60 6 240\narbor b\n"}, {"b; a", "", "arbor b\narbor a\n"},
		{"great 64; center 8 60; third 8", "0.0-1.0 1.1-2.0", "arbor great 64\narbor center 8 60\narbor third 8\nmesh great 0 center 0\nmesh center 1 third 0\n"}, {"great 64; center 8 60; third 8", "2.0-1.1 1.0-0.0", "arbor great 64\narbor center 8 60\narbor third 8\nmesh third 0 center 1\nmesh center 0 great 0\n"},
		{"arbor 60; mesh 60", "1.0-0.0", "arbor arbor 60\narbor mesh 60\nmesh mesh 0 arbor 0\n"}, {"a-1 6 7 8 9 10; abcdefghijkl 11", "0.4-1.0 1.0-0.0", "arbor a-1 6 7 8 9 10\narbor abcdefghijkl 11\nmesh a-1 4 abcdefghijkl 0\nmesh abcdefghijkl 0 a-1 0\n"},
	} {
		w := works(c.arbors, c.meshes)
		if got := impl.WorksText(w); got != c.want {
			t.Errorf("WorksText(%v): got %q, want %q", w, got, c.want)
		}
		if got, ok := impl.ReadWorks(c.want); !equalWorks(got, w) || !ok {
			t.Errorf("ReadWorks(%q): got %v %t, want %v", c.want, got, ok, w)
		}
	}
	for _, w := range manyWorks(1500) {
		text := impl.WorksText(w)
		if got, ok := impl.ReadWorks(text); text != textOf(w) || !equalWorks(got, w) || !ok {
			t.Errorf("WorksText(%v): got %q, which is read as %v %t", w, text, got, ok)
		}
	}
	for _, w := range badWorks() {
		if got := impl.WorksText(w); got != "" {
			t.Errorf("WorksText(%.300v): got %q, but they are not valid", fmt.Sprint(w), got)
		}
	}
}

// textsOfNoWorks are texts of no works.
func textsOfNoWorks() []string {
	list := []string{
		"\n", " ", "\n\n", "-", "a", "arbor", "arbor\n", "arbor \n", "mesh", "mesh\n", "works\n", "arbor a", "arbor a\n\n", "\narbor a\n", "arbor a\n\narbor b\n", " arbor a\n", "arbor a \n", "arbor  a\n", "arbor a\n ", "arbor a\r\n", "arbor\ta\n", "arbor a\tb\n", "arbor a\v\n", "arbor a\x00\n", "\ufeffarbor a\n",
		// Words too much or too little, and other words.
		"a 60\n", "60\n", "arbor 60\n", "arbor 60 60\n", "Arbor a\n", "ARBOR a\n", "arbors a\n", "arbo a\n", "axle a\n", "arbor a b\n", "arbor a 60 b\n", "arbor a b 60\n", "arbora 60\n", "arbor a60 x\n", "arbor a 60 arbor b 60\n", "arbor a, 60\n", "arbor a 60,30\n", "arbor a:60\n",
		// Numbers that are none, with a sign or a leading 0, or out of range.
		"arbor a +60\n", "arbor a -60\n", "arbor a 060\n", "arbor a 0060\n", "arbor a 00\n", "arbor a 0\n", "arbor a -0\n", "arbor a 5\n", "arbor a 241\n", "arbor a 60.0\n", "arbor a 6e1\n", "arbor a 0x3c\n", "arbor a 6_0\n", "arbor a six\n", "arbor a ６０\n", "arbor a 60 60 60 60 60 60\n", "arbor a 4294967356\n", "arbor a 18446744073709551676\n", "arbor a 999999999999999999\n", "arbor a 1000000000000000000\n", "arbor a 316\n",
		// Names that are none, and arbors with one name.
		"arbor A\n", "arbor 1a\n", "arbor -a\n", "arbor abcdefghijklm\n", "arbor a_b\n", "arbor \xff\n", "arbor é\n", "arbor a\narbor a\n", "arbor a 60\narbor b\narbor a 30\n",
		// Lines that end in other ways.
		"arbor a 60\narbor b 60", "arbor a 60 arbor b 60\n", "arbor a 60\rarbor b 60\r", "arbor a 60\r\narbor b 60\r\n", "arbor a 60\n\rarbor b 60\n\r", "arbor a 60\u2028arbor b 60\u2028", "arbor a 60\u0085",
	}
	two := "arbor a 60 30\narbor b 40 20\n"
	for _, lines := range []string{
		"mesh a 0 b 0", "mesh a 0 b\n", "mesh a 0 b 0 0\n", "mesh a 0 0\n", "mesh a b 0\n", "mesh a b\n", "mesh 0 0 1 0\n", "mesh a 0 b 0 \n", " mesh a 0 b 0\n", "mesh  a 0 b 0\n", "mesh a  0 b 0\n", "mesh a 0  b 0\n", "mesh a 0 b  0\n", "mesh a 0 b 0\n\n", "\nmesh a 0 b 0\n", "mesh a 0 b 0\r\n", "mesh a\t0 b 0\n", "mesh a 0,b 0\n", "mesh a 0 b 0\nmesh\n", "mesh\n", "Mesh a 0 b 0\n", "meshes a 0 b 0\n", "mesh a 0 b 0 mesh a 1 b 1\n",
		"mesh a +0 b 0\n", "mesh a -0 b 0\n", "mesh a 00 b 0\n", "mesh a 0 b 01\n", "mesh a 0 b +1\n", "mesh a -1 b 0\n", "mesh a 0 b -1\n", "mesh a 2 b 0\n", "mesh a 0 b 2\n", "mesh a x b 0\n", "mesh a 0 b x\n", "mesh a 4294967296 b 0\n", "mesh a 0 b 18446744073709551616\n", "mesh a 999999999999999999 b 0\n", "mesh a 0.0 b 0\n",
		"mesh a 0 c 0\n", "mesh c 0 b 0\n", "mesh c 0 d 0\n", "mesh A 0 b 0\n", "mesh a 0 B 0\n", "mesh aa 0 b 0\n", "mesh a 0 b1 0\n", "mesh a 0 1 0\n", "mesh 0 0 b 0\n", "mesh a 0 a 0\n", "mesh a 0 a 1\n", "mesh b 1 b 0\n", "mesh a 0 b 0\nmesh a 0 b 0\n", "mesh a 0 b 0\nmesh b 0 a 0\n", "mesh a 0 b 0\nmesh a 1 b 1\nmesh a 0 b 0\n",
		// An arbor behind a mesh.
		"mesh a 0 b 0\narbor c\n", "mesh a 0 b 0\narbor c 60\nmesh a 1 c 0\n", "mesh a 0 c 0\narbor c 60\n", "mesh c 0 b 0\narbor c 60\n",
	} {
		list = append(list, two+lines)
	}
	list = append(list, "mesh a 0 b 0\n", "mesh a 0 b 0\n"+two, "mesh a 0 b 0\narbor a 60\narbor b 60\n", "arbor a 60\nmesh a 0 b 0\narbor b 60\n", "arbor b 60\nmesh b 0 a 0\narbor a 60\n", "arbor a 60\nmesh a 0 a 0\n")
	full := textOf(fullWorks())
	return append(list,
		full+"mesh wheel-abc-00 2 wheel-abc-01 2\n", strings.Replace(full, "mesh", "arbor more\nmesh", 1), full+full, full[:len(full)-1],
		strings.Repeat("arbor a\n", 50000), strings.Repeat("\n", 100000), strings.Repeat(" ", 100000), "arbor a"+strings.Repeat(" 60", 50000)+"\n", "arbor "+strings.Repeat("a", 100000)+"\n", "arbor a "+strings.Repeat("9", 100000)+"\n", "arbor a "+strings.Repeat("0", 100000)+"60\n", two+strings.Repeat("mesh a 0 b 0\n", 50000), "arbor a"+strings.Repeat(" ", 100000)+"\n",
	)
}

func TestPromise8TextsOfNoWorks(t *testing.T) {
	for _, s := range textsOfNoWorks() {
		if got, ok := impl.ReadWorks(s); !isNothing(got) || ok {
			t.Errorf("ReadWorks(%.200q): got %v %t, want none", s, got, ok)
		}
	}
	if got, ok := impl.ReadWorks(""); !isNothing(got) || !ok {
		t.Errorf("ReadWorks of the empty text: got %v %t", got, ok)
	}
}

var (
	worksPattern = regexp.MustCompile(`\A(?:arbor [^ \n]+(?: (?:0|[1-9][0-9]{0,17}))*\n)*(?:mesh [^ \n]+ (?:0|[1-9][0-9]{0,17}) [^ \n]+ (?:0|[1-9][0-9]{0,17})\n)*\z`)
	linePattern  = regexp.MustCompile(`[^\n]+`)
)

// readByLines reads works by a pattern.
func readByLines(s string) (impl.Works, bool) {
	if !worksPattern.MatchString(s) {
		return impl.Works{}, false
	}
	number := func(s string) int64 {
		n, err := strconv.ParseInt(s, 10, 64)
		if err != nil {
			panic(err)
		}
		return n
	}
	var w impl.Works
	index := map[string]int64{}
	for _, line := range linePattern.FindAllString(s, -1) {
		words := strings.Split(line, " ")
		if words[0] == "arbor" {
			a := impl.Arbor{Name: words[1]}
			for _, word := range words[2:] {
				a.Wheels = append(a.Wheels, number(word))
			}
			index[a.Name] = int64(len(w.Arbors))
			w.Arbors = append(w.Arbors, a)
			continue
		}
		a, aOK := index[words[1]]
		b, bOK := index[words[3]]
		if !aOK || !bOK {
			return impl.Works{}, false
		}
		w.Meshes = append(w.Meshes, impl.Mesh{A: a, WheelA: number(words[2]), B: b, WheelB: number(words[4])})
	}
	if !isWorks(w) {
		return impl.Works{}, false
	}
	return w, true
}

// checkReadWorks compares ReadWorks with a pattern, and returns whether there are works with the text.
func checkReadWorks(t *testing.T, s string) bool {
	t.Helper()
	want, is := readByLines(s)
	got, ok := impl.ReadWorks(s)
	if !equalWorks(got, want) || ok != is {
		t.Errorf("ReadWorks(%q): got %v %t, want %v %t", s, got, ok, want, is)
	}
	return ok
}

func TestPromise8ReadWorksOfChangedTexts(t *testing.T) {
	for _, text := range []string{textOf(going()), "arbor a 60 30\narbor b 40 240\nmesh b 1 a 0\nmesh a 1 b 0\n", "arbor abcdefghijkl\narbor a 6 7 8 9 10\n"} {
		checkChanges(t, text, checkReadWorks)
	}
}

// checkChanges checks the texts that arise from a text if one byte is put in, exchanged or left out, and the parts before and behind each place.
func checkChanges(t *testing.T, text string, check func(*testing.T, string) bool) {
	t.Helper()
	for at := range len(text) + 1 {
		for b := range 256 {
			c := string([]byte{byte(b)})
			check(t, text[:at]+c+text[at:])
			if at < len(text) {
				check(t, text[:at]+c+text[at+1:])
			}
		}
		if at < len(text) {
			check(t, text[:at]+text[at+1:])
		}
		check(t, text[:at])
		check(t, text[at:])
	}
}

// changedLines returns a text of lines with one of its lines left out, put twice, put elsewhere, or with one of its words exchanged.
func changedLines(text string, source *rand.Rand) string {
	lines := strings.SplitAfter(text, "\n")
	i, k := source.Intn(len(lines)), source.Intn(len(lines))
	switch source.Intn(5) {
	case 0:
		lines = slices.Delete(lines, i, i+1)
	case 1:
		lines = slices.Insert(lines, k, lines[i])
	case 2:
		lines[i], lines[k] = lines[k], lines[i]
	case 3:
		words := strings.Split(lines[i], " ")
		other := strings.Split(lines[k], " ")
		words[source.Intn(len(words))] = other[source.Intn(len(other))]
		lines[i] = strings.Join(words, " ")
	}
	return strings.Join(lines, "")
}

func TestPromise8ReadWorksOfChangedLines(t *testing.T) {
	source := rand.New(rand.NewSource(83))
	read, other := 0, 0
	for _, w := range manyWorks(4000) {
		text := textOf(w)
		for range 4 {
			text = changedLines(text, source)
			if checkReadWorks(t, text) {
				read++
			} else {
				other++
			}
		}
	}
	if read < 2000 || other < 2000 {
		t.Errorf("%d texts were those of works, and %d were not", read, other)
	}
}

// crowded returns the same works as parts of longer slices, whose spare capacity is in use.
func crowded(w impl.Works) impl.Works {
	c := copyOf(w)
	for i, a := range c.Arbors {
		c.Arbors[i].Wheels = append(slices.Clone(a.Wheels), 61, 62, 63)[:len(a.Wheels)]
	}
	c.Arbors = append(c.Arbors, works("y 64; z 65 66", "").Arbors...)[:len(w.Arbors)]
	c.Meshes = append(c.Meshes, mesh("7.8-9.10"), mesh("1.0-0.0"))[:len(w.Meshes)]
	return c
}

// wholeOf returns a text of everything in the slices of works, also behind their ends.
func wholeOf(w impl.Works) string {
	arbors := slices.Clone(w.Arbors[:cap(w.Arbors)])
	for i, a := range arbors {
		arbors[i].Wheels = a.Wheels[:cap(a.Wheels)]
	}
	return fmt.Sprint(arbors, w.Meshes[:cap(w.Meshes)])
}

// worksResults calls all functions of chapter 8, and returns the works and the other results.
func worksResults(w impl.Works, a impl.Arbor) ([]impl.Works, string) {
	last := int64(len(w.Arbors)) - 1
	more, at, code := impl.AddArbor(w, a)
	meshed, meshCode := impl.AddMesh(w, mesh("0.0-2.0"))
	text := impl.WorksText(w)
	read, ok := impl.ReadWorks(text)
	index, is := impl.ArborNamed(w, "third")
	p, pairCode := impl.PairOf(w, 0)
	speeds, speedsCode := impl.SpeedsOf(w, last)
	path, pathCode := impl.PathBetween(w, 0, last)
	list, listCode := impl.TrainBetween(w, last, 0)
	all := fmt.Sprint(impl.ValidWorks(w), impl.SameWorks(w, w), at, code, meshCode, text, ok, index, is, p, pairCode, speeds, speedsCode, path, pathCode, list, listCode)
	// What is behind the end of a result is nobody's.
	clear(speeds[:cap(speeds)])
	clear(path[:cap(path)])
	clear(list[:cap(list)])
	return []impl.Works{more, meshed, read}, all
}

// scribble changes everything in the slices of works, also behind their ends, and returns whether a change of one slice is seen in another one.
func scribble(w impl.Works) bool {
	shared := false
	for _, a := range w.Arbors {
		wheels := a.Wheels[:cap(a.Wheels)]
		for i, teeth := range wheels {
			shared = shared || teeth == 1000
			wheels[i] = 1000
		}
	}
	clear(w.Arbors[:cap(w.Arbors)])
	clear(w.Meshes[:cap(w.Meshes)])
	return shared
}

func TestPromise1WorksAreNotModified(t *testing.T) {
	for _, w := range append(manyWorks(150), badWorks()[:150]...) {
		w = crowded(w)
		a := impl.Arbor{Name: "more", Wheels: []int64{60, 8, 61, 62}[:2]}
		whole := wholeOf(w)
		results, all := worksResults(w, a)
		var texts []string
		for _, r := range results {
			texts = append(texts, fmt.Sprint(r))
		}
		for i, r := range results {
			if scribble(r) {
				t.Errorf("two slices of result %d for %v share memory", i, w)
			}
		}
		if wholeOf(w) != whole || !slices.Equal(a.Wheels[:4], []int64{60, 8, 61, 62}) {
			t.Errorf("an argument was changed: got %s and %v, want %s", wholeOf(w), a.Wheels[:4], whole)
		}
		again, allAgain := worksResults(w, a)
		for i, r := range again {
			if fmt.Sprint(r) != texts[i] {
				t.Errorf("result %d for %v: got %v, but %s before", i, w, r, texts[i])
			}
		}
		if allAgain != all {
			t.Errorf("results for %v: got %s, but %s before", w, allAgain, all)
		}
	}
}

func TestPromise1ArborsWithTheSameSliceAreSeparated(t *testing.T) {
	wheels := []int64{60, 30}
	w := impl.Works{Arbors: []impl.Arbor{{Name: "a", Wheels: wheels}, {Name: "b", Wheels: wheels}, {Name: "c", Wheels: wheels[:1]}}, Meshes: []impl.Mesh{mesh("0.0-1.0")}}
	more, _, code := impl.AddArbor(w, impl.Arbor{Name: "d", Wheels: wheels})
	meshed, meshCode := impl.AddMesh(w, mesh("0.1-1.1"))
	if code != impl.OK || meshCode != impl.OK || scribble(more) || scribble(meshed) || !slices.Equal(wheels, []int64{60, 30}) {
		t.Errorf("arbors of results share memory: codes %d %d, the wheels are %v", code, meshCode, wheels)
	}
}

func TestPromise1NilAndEmptyWorksAreEquivalent(t *testing.T) {
	empty := impl.Works{Arbors: []impl.Arbor{{Name: "a", Wheels: []int64{}}}, Meshes: []impl.Mesh{}}
	for _, w := range [][2]impl.Works{{works("a", ""), empty}, {{}, {Arbors: []impl.Arbor{}, Meshes: []impl.Mesh{}}}} {
		some, all := worksResults(w[0], impl.Arbor{Name: "b"})
		others, allOthers := worksResults(w[1], impl.Arbor{Name: "b", Wheels: []int64{}})
		if all != allOthers || !slices.EqualFunc(some, others, equalWorks) || !impl.SameWorks(w[0], w[1]) {
			t.Errorf("nil slices lead to %v %s, empty ones to %v %s", some, all, others, allOthers)
		}
	}
}

func TestPromise1WorksFromSeveralGoroutines(t *testing.T) {
	list := append(manyWorks(120), badWorks()[:40]...)
	more := impl.Arbor{Name: "more", Wheels: []int64{60}}
	var want []string
	for _, w := range list {
		results, all := worksResults(w, more)
		want = append(want, fmt.Sprint(results, all))
	}
	var all sync.WaitGroup
	for range 8 {
		all.Go(func() {
			for i, w := range list {
				if results, others := worksResults(w, more); fmt.Sprint(results, others) != want[i] {
					t.Errorf("results for %v: got %v %s, want %s", w, results, others, want[i])
				}
			}
		})
	}
	all.Wait()
}
