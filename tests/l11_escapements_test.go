package tests

import (
	"fmt"
	"math/big"
	"math/rand"
	"slices"
	"strings"
	"sync"
	"testing"

	"loop.example/g00921/impl"
)

func escapement(unlock, impulse, loss, most int64) impl.Escapement {
	return impl.Escapement{Teeth: 30, Unlock: unlock, Impulse: impulse, Loss: loss, Most: most}
}

// regulator is the escapement of the specification's example.
func regulator() impl.Escapement { return escapement(10, 30, 100, 500) }

func beat(energy, ticks int64) impl.Beat { return impl.Beat{Energy: energy, Ticks: ticks} }

func isEscapement(e impl.Escapement) bool {
	return e.Teeth >= 6 && e.Teeth <= 120 && e.Unlock >= 1 && e.Unlock <= 100000 && e.Impulse >= 0 && e.Impulse <= 100000 && e.Loss >= 0 && e.Loss <= 1000 && e.Most >= e.Unlock && e.Most <= 100000
}

func isBeat(e impl.Escapement, b impl.Beat) bool {
	return isEscapement(e) && b.Energy >= 0 && b.Energy <= e.Most && b.Ticks >= 0 && b.Ticks <= 1000000000
}

func isTorque(torque int64) bool { return torque >= 0 && torque <= 1000 }

// isLocked reports whether a swing does not tick.
func isLocked(e impl.Escapement, torque, energy int64) bool {
	return torque == 0 || energy-lostOf(e, energy) < e.Unlock
}

// lostOf returns the energy that a swing loses: the least integer of which a thousandfold is enough.
func lostOf(e impl.Escapement, energy int64) int64 {
	lost := energy * e.Loss / 1000
	if lost*1000 < energy*e.Loss {
		lost++
	}
	return lost
}

// expectSwing returns the state after a swing, without regard to MaxTicks.
func expectSwing(e impl.Escapement, torque int64, b impl.Beat) impl.Beat {
	if isLocked(e, torque, b.Energy) {
		return beat(b.Energy-lostOf(e, b.Energy), b.Ticks)
	}
	energy := b.Energy - lostOf(e, b.Energy) - e.Unlock + (e.Impulse*torque-e.Impulse*torque%1000)/1000
	if energy > e.Most {
		energy = e.Most
	}
	return beat(energy, b.Ticks+1)
}

// expectAlong returns the state after swings, the indices of those that do not tick, and the code.
func expectAlong(e impl.Escapement, torques []int64, b impl.Beat) (impl.Beat, []int64, int64) {
	if !isBeat(e, b) {
		return impl.Beat{}, nil, impl.ErrInvalid
	}
	if len(torques) > 2000 {
		return impl.Beat{}, nil, impl.ErrRange
	}
	for _, torque := range torques {
		if !isTorque(torque) {
			return impl.Beat{}, nil, impl.ErrRange
		}
	}
	var missed []int64
	for i, torque := range torques {
		if isLocked(e, torque, b.Energy) {
			missed = append(missed, int64(i))
		} else if b.Ticks == 1000000000 {
			return impl.Beat{}, nil, impl.ErrFull
		}
		b = expectSwing(e, torque, b)
	}
	return b, missed, impl.OK
}

// expectMany returns the state after n swings with the same torque, and the code.
func expectMany(e impl.Escapement, torque, n int64, b impl.Beat) (impl.Beat, int64) {
	if !isBeat(e, b) {
		return impl.Beat{}, impl.ErrInvalid
	}
	if !isTorque(torque) || n < 0 || n > 2000 {
		return impl.Beat{}, impl.ErrRange
	}
	b, _, code := expectAlong(e, slices.Repeat([]int64{torque}, int(n)), b)
	return b, code
}

// ticksWithin returns how many of some swings tick, before the first one that does not.
func ticksWithin(e impl.Escapement, torque, swings, energy int64) int64 {
	for n := range swings {
		if isLocked(e, torque, energy) {
			return n
		}
		energy = expectSwing(e, torque, beat(energy, 0)).Energy
	}
	return swings
}

// expectStop returns the number of swings before the first one that does not tick. If more of them tick than there are energies, one energy comes again, and all tick.
func expectStop(e impl.Escapement, torque int64, b impl.Beat) (int64, int64) {
	if !isBeat(e, b) {
		return 0, impl.ErrInvalid
	}
	if !isTorque(torque) {
		return 0, impl.ErrRange
	}
	n := ticksWithin(e, torque, e.Most+2, b.Energy)
	if n > e.Most+1 {
		return 0, impl.ErrNotFound
	}
	return n, impl.OK
}

// isSteady reports whether a swing ticks and restores the energy.
func isSteady(e impl.Escapement, torque, energy int64) bool {
	return expectSwing(e, torque, beat(energy, 7)) == beat(energy, 8)
}

// expectSteady tries all energies.
func expectSteady(e impl.Escapement, torque int64) (int64, int64) {
	if !isEscapement(e) {
		return 0, impl.ErrInvalid
	}
	if !isTorque(torque) {
		return 0, impl.ErrRange
	}
	for energy := e.Most; energy >= 0; energy-- {
		if isSteady(e, torque, energy) {
			return energy, impl.OK
		}
	}
	return 0, impl.ErrNotFound
}

// expectTorque tries all torques.
func expectTorque(e impl.Escapement, n int64, b impl.Beat) (int64, int64) {
	if !isBeat(e, b) {
		return 0, impl.ErrInvalid
	}
	if n < 1 || n > 2000 {
		return 0, impl.ErrRange
	}
	for torque := range int64(1001) {
		if ticksWithin(e, torque, n, b.Energy) == n {
			return torque, impl.OK
		}
	}
	return 0, impl.ErrNotFound
}

// expectStart tries all energies.
func expectStart(e impl.Escapement, torque, n int64) (int64, int64) {
	if !isEscapement(e) {
		return 0, impl.ErrInvalid
	}
	if !isTorque(torque) || n < 1 || n > 2000 {
		return 0, impl.ErrRange
	}
	for energy := int64(0); energy <= e.Most; energy++ {
		if ticksWithin(e, torque, n, energy) == n {
			return energy, impl.OK
		}
	}
	return 0, impl.ErrNotFound
}

func expectWheelTurns(e impl.Escapement, b impl.Beat) (impl.Ratio, int64) {
	if !isBeat(e, b) {
		return impl.Ratio{}, impl.ErrInvalid
	}
	r, _ := exactly(big.NewRat(b.Ticks, 2*e.Teeth))
	return r, impl.OK
}

func checkSwing(t *testing.T, e impl.Escapement, torque int64, b, want impl.Beat, wantTick bool, wantCode int64) {
	t.Helper()
	if got, tick, code := impl.Swing(e, torque, b); got != want || tick != wantTick || code != wantCode {
		t.Errorf("Swing(%v, %d, %v): got %v %t, code %d, want %v %t, code %d", e, torque, b, got, tick, code, want, wantTick, wantCode)
	}
}

// checkOneSwing checks a swing of a valid escapement with a torque.
func checkOneSwing(t *testing.T, e impl.Escapement, torque int64, b impl.Beat) {
	t.Helper()
	want, missed, code := expectAlong(e, []int64{torque}, b)
	checkSwing(t, e, torque, b, want, len(missed) == 0 && code == impl.OK, code)
}

func checkMany(t *testing.T, e impl.Escapement, torque, n int64, b, want impl.Beat, wantCode int64) {
	t.Helper()
	if got, code := impl.SwingMany(e, torque, n, b); got != want || code != wantCode {
		t.Errorf("SwingMany(%v, %d, %d, %v): got %v, code %d, want %v, code %d", e, torque, n, b, got, code, want, wantCode)
	}
}

func checkAlong(t *testing.T, e impl.Escapement, torques []int64, b, want impl.Beat, wantMissed []int64, wantCode int64) {
	t.Helper()
	if got, missed, code := impl.SwingAlong(e, torques, b); got != want || !slices.Equal(missed, wantMissed) || code != wantCode {
		t.Errorf("SwingAlong(%v, %d torques %v, %v): got %v %v, code %d, want %v %v, code %d", e, len(torques), torques[:min(len(torques), 20)], b, got, missed, code, want, wantMissed, wantCode)
	}
}

func checkSteady(t *testing.T, e impl.Escapement, torque, want, wantCode int64) {
	t.Helper()
	if got, code := impl.SteadyEnergy(e, torque); got != want || code != wantCode {
		t.Errorf("SteadyEnergy(%v, %d): got %d, code %d, want %d, code %d", e, torque, got, code, want, wantCode)
	}
}

func checkStop(t *testing.T, e impl.Escapement, torque int64, b impl.Beat, want, wantCode int64) {
	t.Helper()
	if got, code := impl.StopAfter(e, torque, b); got != want || code != wantCode {
		t.Errorf("StopAfter(%v, %d, %v): got %d, code %d, want %d, code %d", e, torque, b, got, code, want, wantCode)
	}
}

func checkTorque(t *testing.T, e impl.Escapement, n int64, b impl.Beat, want, wantCode int64) {
	t.Helper()
	if got, code := impl.LeastTorque(e, n, b); got != want || code != wantCode {
		t.Errorf("LeastTorque(%v, %d, %v): got %d, code %d, want %d, code %d", e, n, b, got, code, want, wantCode)
	}
}

func checkStart(t *testing.T, e impl.Escapement, torque, n, want, wantCode int64) {
	t.Helper()
	if got, code := impl.LeastStart(e, torque, n); got != want || code != wantCode {
		t.Errorf("LeastStart(%v, %d, %d): got %d, code %d, want %d, code %d", e, torque, n, got, code, want, wantCode)
	}
}

func checkTurns(t *testing.T, e impl.Escapement, b impl.Beat, want impl.Ratio, wantCode int64) {
	t.Helper()
	if got, code := impl.WheelTurns(e, b); got != want || code != wantCode {
		t.Errorf("WheelTurns(%v, %v): got %v, code %d, want %v, code %d", e, b, got, code, want, wantCode)
	}
}

// smallEscapements are all with a few small energies and losses.
func smallEscapements() []impl.Escapement {
	var list []impl.Escapement
	for _, most := range []int64{1, 2, 3, 5, 8, 12} {
		for unlock := int64(1); unlock <= min(most, 4); unlock++ {
			for impulse := int64(0); impulse <= 6; impulse++ {
				for _, loss := range []int64{0, 1, 125, 200, 333, 500, 999, 1000} {
					list = append(list, escapement(unlock, impulse, loss, most))
				}
			}
		}
	}
	return list
}

// someTorques are the torques at which small impulses differ, and some beside them.
func someTorques() []int64 {
	return []int64{0, 1, 166, 167, 199, 200, 333, 334, 499, 500, 501, 666, 667, 833, 834, 999, 1000}
}

// anyEscapement returns one with numbers of any size, often ones whose impulse is about what a swing takes.
func anyEscapement(source *rand.Rand) impl.Escapement {
	size := []int64{10, 100, 3000, 100000}[source.Intn(4)]
	e := impl.Escapement{Teeth: 6 + source.Int63n(115), Unlock: 1 + source.Int63n(size), Impulse: source.Int63n(size + 1), Loss: []int64{0, 1, 10, 100, source.Int63n(1001)}[source.Intn(5)], Most: size}
	if source.Intn(3) > 0 {
		e.Unlock = 1 + source.Int63n(max(size/20, 1))
		e.Impulse = min(e.Unlock+source.Int63n(size/10)+source.Int63n(3)-1, 100000)
	}
	e.Most -= source.Int63n(e.Most - e.Unlock + 1)
	return e
}

func anyTorque(source *rand.Rand) int64 {
	return []int64{0, 1, 1000, 999, source.Int63n(1001), source.Int63n(1001), 900 + source.Int63n(101), 500 + source.Int63n(501)}[source.Intn(8)]
}

// badEscapements are escapements that are not valid for one reason, and some with several ones.
func badEscapements() []impl.Escapement {
	list := []impl.Escapement{{}, {Teeth: 30}, {Teeth: 5, Unlock: 0, Impulse: -1, Loss: 1001, Most: 100001}, escapement(501, 30, 100, 500), escapement(2, 0, 0, 1), escapement(100000, 0, 0, 99999), escapement(100001, 0, 0, 100001), escapement(0, 30, 100, 0), escapement(-10, 30, 100, -10)}
	for _, bad := range append(farNumbers(), -1, -30, 0, 5, 121, 122, 240) {
		e := regulator()
		e.Teeth = bad
		list = append(list, e)
	}
	for _, bad := range append(farNumbers(), -1, -10, 0, 501, 100001) {
		list = append(list, escapement(bad, 30, 100, 500))
	}
	for _, bad := range append(farNumbers(), -1, -30, 100001, 100002) {
		list = append(list, escapement(10, bad, 100, 500))
	}
	for _, bad := range append(farNumbers(), -1, -100, 1001, 1002, 10000) {
		list = append(list, escapement(10, 30, bad, 500))
	}
	for _, bad := range append(farNumbers(), -1, -500, 0, 9, 100001, 100002) {
		list = append(list, escapement(10, 30, 100, bad))
	}
	return list
}

// badBeats are states that are not valid for an escapement with the greatest energy 500.
func badBeats() []impl.Beat {
	list := []impl.Beat{beat(-1, -1), beat(501, 1000000001), beat(-1, 1000000001), beat(501, -1)}
	for _, bad := range append(farNumbers(), -1, 501, 502, 100000, 100001) {
		list = append(list, beat(bad, 0), beat(bad, 1000000000))
	}
	for _, bad := range append(farNumbers(), -1, -2, 1000000001, 1000000002) {
		list = append(list, beat(200, bad), beat(0, bad), beat(500, bad))
	}
	return list
}

func notTorques() []int64 {
	return append(farNumbers(), -1, -2, -1000, 1001, 1002, 1000000, 1<<32+500)
}

func TestPromise11ValidEscapement(t *testing.T) {
	if impl.MaxEnergy != 100000 || impl.MaxEscape != 120 || impl.MaxTorque != 1000 || impl.MaxSwings != 2000 || impl.MaxTicks != 1000000000 {
		t.Error("a limit is not that of the specification")
	}
	for _, c := range []struct {
		teeth, unlock, impulse, loss, most int64
		want                               bool
	}{
		{30, 10, 30, 100, 500, true},
		{6, 10, 30, 100, 500, true}, {5, 10, 30, 100, 500, false}, {7, 10, 30, 100, 500, true},
		{120, 10, 30, 100, 500, true}, {121, 10, 30, 100, 500, false}, {119, 10, 30, 100, 500, true}, {240, 10, 30, 100, 500, false},
		{30, 0, 30, 100, 500, false}, {30, 1, 30, 100, 500, true}, {30, 100000, 30, 100, 100000, true}, {30, 100001, 30, 100, 100001, false}, {30, 100001, 30, 100, 100000, false},
		{30, 10, -1, 100, 500, false}, {30, 10, 0, 100, 500, true}, {30, 10, 100000, 100, 500, true}, {30, 10, 100001, 100, 500, false},
		{30, 10, 30, -1, 500, false}, {30, 10, 30, 0, 500, true}, {30, 10, 30, 1, 500, true}, {30, 10, 30, 1000, 500, true}, {30, 10, 30, 1001, 500, false},
		{30, 10, 30, 100, 10, true}, {30, 10, 30, 100, 9, false}, {30, 10, 30, 100, 11, true}, {30, 10, 30, 100, 100000, true}, {30, 10, 30, 100, 100001, false},
		{6, 1, 0, 0, 1, true}, {120, 100000, 100000, 1000, 100000, true}, {30, 1, 0, 0, 0, false}, {0, 0, 0, 0, 0, false},
	} {
		e := impl.Escapement{Teeth: c.teeth, Unlock: c.unlock, Impulse: c.impulse, Loss: c.loss, Most: c.most}
		if got := impl.ValidEscapement(e); got != c.want {
			t.Errorf("ValidEscapement(%v): got %t, want %t", e, got, c.want)
		}
	}
	for _, e := range badEscapements() {
		if impl.ValidEscapement(e) {
			t.Errorf("ValidEscapement(%v): got true, want false", e)
		}
	}
}

func TestPromise11FieldsOfEscapements(t *testing.T) {
	numbers := append(farNumbers(), -2, -1, 0, 1, 2, 5, 6, 7, 9, 10, 11, 119, 120, 121, 240, 499, 500, 501, 999, 1000, 1001, 1002, 99999, 100000, 100001, 100002)
	for _, n := range numbers {
		for _, base := range []impl.Escapement{regulator(), {Teeth: 6, Unlock: 1, Most: 1}, {Teeth: 120, Unlock: 100000, Impulse: 100000, Loss: 1000, Most: 100000}} {
			for i := range 5 {
				e := base
				*[]*int64{&e.Teeth, &e.Unlock, &e.Impulse, &e.Loss, &e.Most}[i] = n
				if got := impl.ValidEscapement(e); got != isEscapement(e) {
					t.Errorf("ValidEscapement(%v): got %t, want %t", e, got, isEscapement(e))
				}
			}
		}
		for _, m := range numbers {
			e := escapement(n, 30, 100, m)
			if got := impl.ValidEscapement(e); got != isEscapement(e) {
				t.Errorf("ValidEscapement(%v): got %t, want %t", e, got, isEscapement(e))
			}
		}
	}
}

func TestPromise11ValidBeat(t *testing.T) {
	e := regulator()
	for _, c := range []struct {
		energy, ticks int64
		want          bool
	}{
		{0, 0, true}, {-1, 0, false}, {1, 0, true}, {499, 0, true}, {500, 0, true}, {501, 0, false}, {502, 0, false},
		{200, -1, false}, {200, 1, true}, {200, 999999999, true}, {200, 1000000000, true}, {200, 1000000001, false},
		{500, 1000000000, true}, {501, 1000000001, false}, {-1, -1, false}, {0, 1000000000, true}, {500, -1, false}, {-1, 1000000000, false},
	} {
		if got := impl.ValidBeat(e, beat(c.energy, c.ticks)); got != c.want {
			t.Errorf("ValidBeat(%d, %d): got %t, want %t", c.energy, c.ticks, got, c.want)
		}
	}
	for _, b := range badBeats() {
		if impl.ValidBeat(e, b) {
			t.Errorf("ValidBeat(%v): got true, want false", b)
		}
	}
	for _, most := range []int64{10, 11, 99999, 100000} {
		for _, energy := range []int64{-1, 0, 9, 10, 11, 12, 99998, 99999, 100000, 100001} {
			e.Most = most
			if got := impl.ValidBeat(e, beat(energy, 5)); got != (energy >= 0 && energy <= most) {
				t.Errorf("ValidBeat(%v, %d): got %t", e, energy, got)
			}
		}
	}
	for _, bad := range badEscapements() {
		for _, b := range []impl.Beat{{}, beat(1, 1), beat(200, 5), beat(bad.Most, 0), beat(-1, -1)} {
			if impl.ValidBeat(bad, b) {
				t.Errorf("ValidBeat(%v, %v): got true, want false", bad, b)
			}
		}
	}
}

func TestPromise11Swing(t *testing.T) {
	for _, c := range []struct {
		unlock, impulse, loss, most, torque, energy, want int64
		ticks                                             bool
	}{
		{10, 30, 100, 500, 1000, 200, 200, true},
		// Quotients without a remainder, and ones that are rounded up.
		{10, 30, 100, 500, 1000, 199, 199, true}, {10, 30, 100, 500, 1000, 201, 200, true}, {10, 30, 100, 500, 1000, 191, 191, true}, {10, 30, 100, 500, 1000, 190, 191, true}, {10, 30, 100, 500, 1000, 210, 209, true},
		{10, 30, 1, 500, 1000, 1, 0, false}, {10, 30, 1, 500, 1000, 100, 119, true}, {1, 0, 1, 2000, 1000, 999, 997, true}, {1, 0, 1, 2000, 1000, 1000, 998, true}, {1, 0, 1, 2000, 1000, 1001, 998, true}, {1, 0, 1, 2000, 1000, 2000, 1997, true},
		{1, 0, 999, 2000, 1000, 999, 0, false}, {1, 0, 999, 2000, 1000, 1000, 0, true}, {1, 0, 999, 2000, 1000, 1001, 0, true}, {1, 0, 999, 2000, 1000, 2000, 1, true},
		{10, 30, 0, 500, 1000, 200, 220, true}, {10, 30, 0, 500, 1000, 9, 9, false}, {1, 30, 1000, 500, 1000, 500, 0, false}, {1, 30, 1000, 500, 1000, 1, 0, false}, {1, 30, 1000, 500, 1000, 0, 0, false},
		// The energy behind the loss is Unlock, one less and one more.
		{10, 30, 100, 500, 1000, 12, 30, true}, {10, 30, 100, 500, 1000, 11, 9, false}, {10, 30, 100, 500, 1000, 13, 31, true},
		{180, 0, 100, 500, 1000, 200, 0, true}, {181, 0, 100, 500, 1000, 200, 180, false}, {179, 0, 100, 500, 1000, 200, 1, true},
		{500, 0, 0, 500, 1, 500, 0, true}, {500, 0, 0, 500, 1, 499, 499, false}, {500, 0, 1, 500, 1, 500, 499, false}, {100000, 100000, 0, 100000, 1000, 100000, 100000, true}, {100000, 100000, 0, 100000, 1000, 99999, 99999, false},
		// Without a torque, and with so small ones that there is no impulse.
		{10, 30, 100, 500, 0, 201, 180, false}, {10, 30, 100, 500, 0, 500, 450, false}, {10, 30, 0, 500, 0, 500, 500, false}, {10, 30, 100, 500, 0, 0, 0, false}, {10, 30, 1000, 500, 0, 500, 0, false}, {10, 0, 100, 500, 0, 12, 10, false},
		{10, 30, 100, 500, 1, 200, 170, true}, {10, 30, 100, 500, 33, 200, 170, true}, {10, 30, 100, 500, 34, 200, 171, true}, {10, 0, 100, 500, 1000, 200, 170, true}, {10, 999, 0, 2000, 1, 20, 10, true}, {10, 1000, 0, 2000, 1, 20, 11, true}, {10, 1001, 0, 2000, 1, 20, 11, true}, {10, 1999, 0, 2000, 1, 20, 11, true}, {10, 2000, 0, 2000, 1, 20, 12, true},
		{10, 30, 100, 500, 550, 12, 16, true}, {10, 30, 100, 500, 566, 12, 16, true}, {10, 30, 100, 500, 567, 12, 17, true}, {10, 30, 100, 500, 999, 200, 199, true}, {10, 30, 100, 500, 966, 200, 198, true}, {10, 30, 100, 500, 967, 200, 199, true},
		// Energies that would be Most, one less, one more and far more.
		{10, 30, 0, 500, 1000, 480, 500, true}, {10, 30, 0, 500, 1000, 479, 499, true}, {10, 30, 0, 500, 1000, 481, 500, true}, {10, 30, 0, 500, 1000, 500, 500, true}, {10, 100000, 100, 500, 1000, 500, 500, true}, {1, 100000, 0, 100000, 1000, 100000, 100000, true}, {1, 100000, 0, 1, 1000, 1, 1, true},
	} {
		e := escapement(c.unlock, c.impulse, c.loss, c.most)
		for _, ticks := range []int64{0, 1, 5, 999999999} {
			want := beat(c.want, ticks)
			if c.ticks {
				want.Ticks++
			}
			checkSwing(t, e, c.torque, beat(c.energy, ticks), want, c.ticks, impl.OK)
		}
		b := beat(c.energy, 1000000000)
		if c.ticks {
			checkSwing(t, e, c.torque, b, impl.Beat{}, false, impl.ErrFull)
		} else {
			checkSwing(t, e, c.torque, b, beat(c.want, 1000000000), false, impl.OK)
		}
	}
}

func TestPromise11LostEnergyIsRoundedUp(t *testing.T) {
	for _, loss := range []int64{0, 1, 2, 3, 7, 8, 99, 100, 125, 333, 499, 500, 501, 990, 999, 1000} {
		e := escapement(1, 0, loss, 100000)
		for energy := int64(0); energy <= 4000; energy++ {
			for _, n := range []int64{energy, 100000 - energy} {
				lost := ceilingOf(big.NewRat(n*loss, 1000))
				checkSwing(t, e, 0, beat(n, 3), beat(n-lost, 3), false, impl.OK)
				if lostOf(e, n) != lost {
					t.Fatalf("of %d, %d thousandths are %d, not %d", n, loss, lost, lostOf(e, n))
				}
			}
		}
	}
}

func TestPromise11ImpulsesAreRoundedDown(t *testing.T) {
	for _, impulse := range []int64{0, 1, 2, 3, 7, 30, 999, 1000, 1001, 33333, 49999} {
		for torque := int64(1); torque <= 1000; torque++ {
			given := floorOf(big.NewRat(impulse*torque, 1000))
			checkSwing(t, escapement(5, impulse, 0, 100000), torque, beat(50000, 3), beat(50000-5+given, 4), true, impl.OK)
		}
	}
}

func TestPromise11SwingsOfSmallEscapements(t *testing.T) {
	for _, e := range smallEscapements() {
		for _, torque := range someTorques() {
			for energy := int64(0); energy <= e.Most; energy++ {
				for _, ticks := range []int64{0, 999999999, 1000000000} {
					checkOneSwing(t, e, torque, beat(energy, ticks))
				}
			}
		}
	}
}

func TestPromise11SwingsOfAnyEscapements(t *testing.T) {
	source := rand.New(rand.NewSource(111))
	kinds := map[string]int{}
	for range 40000 {
		e, torque := anyEscapement(source), anyTorque(source)
		b := beat(source.Int63n(e.Most+1), source.Int63n(1000000001))
		if source.Intn(3) == 0 {
			b.Energy = []int64{0, e.Most, min(e.Unlock, e.Most), max(e.Most-1, 0)}[source.Intn(4)]
		}
		checkOneSwing(t, e, torque, b)
		next := expectSwing(e, torque, b)
		if next.Energy > e.Most || next.Energy < 0 || next.Energy > b.Energy && isLocked(e, torque, b.Energy) {
			t.Fatalf("Swing(%v, %d, %v): %v is no state", e, torque, b, next)
		}
		kinds[fmt.Sprint(isLocked(e, torque, b.Energy), torque == 0, next.Energy == e.Most)]++
	}
	if kinds["false false false"] < 1000 || kinds["false false true"] < 1000 || kinds["true false false"] < 1000 || kinds["true true false"] < 1000 {
		t.Errorf("some kinds of swings were hardly tried: %v", kinds)
	}
}

func TestPromise11SwingMany(t *testing.T) {
	e := regulator()
	for _, c := range []struct{ torque, n, energy, ticks, want, wantTicks int64 }{
		{1000, 0, 300, 5, 300, 5}, {0, 0, 300, 5, 300, 5}, {1000, 1, 300, 5, 290, 6}, {1000, 2, 300, 5, 281, 7}, {1000, 2000, 300, 5, 200, 2005}, {1000, 2000, 200, 0, 200, 2000}, {1000, 1999, 200, 0, 200, 1999},
		{1000, 0, 0, 0, 0, 0}, {1000, 1, 0, 0, 0, 0}, {1000, 2000, 11, 3, 0, 3}, {1000, 1, 11, 3, 9, 3}, {1000, 2000, 12, 3, 191, 2003},
		{0, 1, 500, 9, 450, 9}, {0, 2, 500, 9, 405, 9}, {0, 2000, 500, 9, 0, 9}, {100, 1, 30, 0, 20, 1}, {100, 2, 30, 0, 11, 2}, {100, 3, 30, 0, 9, 2}, {100, 4, 30, 0, 8, 2}, {100, 2000, 30, 0, 0, 2}, {1, 1, 12, 0, 0, 1},
		{1000, 2000, 200, 999998000, 200, 1000000000}, {1000, 0, 200, 1000000000, 200, 1000000000},
	} {
		checkMany(t, e, c.torque, c.n, beat(c.energy, c.ticks), beat(c.want, c.wantTicks), impl.OK)
	}
	still := escapement(10, 30, 0, 500)
	checkMany(t, still, 0, 2000, beat(500, 7), beat(500, 7), impl.OK)
	checkMany(t, still, 1000, 2000, beat(9, 7), beat(9, 7), impl.OK)
	checkMany(t, still, 1000, 2000, beat(10, 7), beat(500, 2007), impl.OK)
	checkMany(t, escapement(1, 0, 0, 100000), 1000, 2000, beat(100000, 0), beat(98000, 2000), impl.OK)
	for _, bad := range append(farNumbers(), -1, -2, -2000, 2001, 2002, 100000, 1<<32, 1<<32+1) {
		checkMany(t, e, 1000, bad, beat(200, 0), impl.Beat{}, impl.ErrRange)
		checkMany(t, e, 1000, bad, impl.Beat{}, impl.Beat{}, impl.ErrRange)
		checkMany(t, e, 0, bad, beat(200, 1000000000), impl.Beat{}, impl.ErrRange)
	}
	for _, bad := range notTorques() {
		for _, n := range []int64{0, 1, 2000, -1, 2001} {
			checkMany(t, e, bad, n, beat(200, 0), impl.Beat{}, impl.ErrRange)
		}
	}
}

func TestPromise11ManySwingsWithTheGreatestTicks(t *testing.T) {
	e := regulator()
	full := int64(1000000000)
	checkMany(t, e, 1000, 1, beat(200, full), impl.Beat{}, impl.ErrFull)
	checkMany(t, e, 1000, 2000, beat(200, full-1999), impl.Beat{}, impl.ErrFull)
	checkMany(t, e, 1000, 1999, beat(200, full-1999), beat(200, full), impl.OK)
	checkMany(t, e, 1000, 2, beat(200, full-1), impl.Beat{}, impl.ErrFull)
	checkMany(t, e, 1000, 1, beat(200, full-1), beat(200, full), impl.OK)
	// Swings that do not tick need no more ticks, and those that tick do not come again.
	checkMany(t, e, 0, 2000, beat(200, full), beat(0, full), impl.OK)
	checkMany(t, e, 1000, 2000, beat(11, full), beat(0, full), impl.OK)
	checkMany(t, e, 100, 2000, beat(30, full-2), beat(0, full), impl.OK)
	checkMany(t, e, 100, 2000, beat(30, full-1), impl.Beat{}, impl.ErrFull)
	checkMany(t, e, 100, 1, beat(30, full-1), beat(20, full), impl.OK)
}

func TestPromise11SwingAlong(t *testing.T) {
	e := regulator()
	full := int64(1000000000)
	checkAlong(t, e, nil, beat(200, 5), beat(200, 5), nil, impl.OK)
	checkAlong(t, e, []int64{}, beat(0, full), beat(0, full), nil, impl.OK)
	checkAlong(t, e, []int64{1000}, beat(200, 5), beat(200, 6), nil, impl.OK)
	checkAlong(t, e, []int64{0}, beat(200, 5), beat(180, 5), []int64{0}, impl.OK)
	// Swings that do not tick at the beginning, in the middle and at the end.
	checkAlong(t, e, []int64{0, 1000, 1000}, beat(200, 0), beat(183, 2), []int64{0}, impl.OK)
	checkAlong(t, e, []int64{1000, 0, 1000}, beat(200, 0), beat(182, 2), []int64{1}, impl.OK)
	checkAlong(t, e, []int64{1000, 1000, 0}, beat(200, 0), beat(180, 2), []int64{2}, impl.OK)
	checkAlong(t, e, []int64{0, 1000, 0, 0, 1000, 0}, beat(200, 0), beat(135, 2), []int64{0, 2, 3, 5}, impl.OK)
	checkAlong(t, e, []int64{0, 0, 0}, beat(200, 0), beat(145, 0), []int64{0, 1, 2}, impl.OK)
	checkAlong(t, e, []int64{1000, 1000}, beat(11, 0), beat(8, 0), []int64{0, 1}, impl.OK)
	checkAlong(t, e, []int64{100, 100, 1000, 1000}, beat(30, 0), beat(8, 2), []int64{2, 3}, impl.OK)
	checkAlong(t, e, []int64{100, 1000, 100, 0, 1}, beat(30, 0), beat(11, 4), []int64{3}, impl.OK)
	checkAlong(t, e, []int64{1, 1, 1}, beat(30, 0), beat(4, 2), []int64{2}, impl.OK)
	// The greatest ticks, with swings that tick and ones that do not.
	checkAlong(t, e, []int64{0}, beat(200, full), beat(180, full), []int64{0}, impl.OK)
	checkAlong(t, e, []int64{1000}, beat(200, full), impl.Beat{}, nil, impl.ErrFull)
	checkAlong(t, e, []int64{1000}, beat(11, full), beat(9, full), []int64{0}, impl.OK)
	checkAlong(t, e, []int64{0, 0, 1000}, beat(200, full), impl.Beat{}, nil, impl.ErrFull)
	checkAlong(t, e, []int64{0, 1000, 0}, beat(200, full-1), beat(163, full), []int64{0, 2}, impl.OK)
	checkAlong(t, e, []int64{0, 1000, 0, 1}, beat(200, full-1), impl.Beat{}, nil, impl.ErrFull)
	checkAlong(t, e, []int64{1000, 1000, 0, 0}, beat(200, full-1), impl.Beat{}, nil, impl.ErrFull)
	checkAlong(t, e, []int64{1000, 1000, 0, 0}, beat(200, full-2), beat(162, full), []int64{2, 3}, impl.OK)
}

func TestPromise11NumberOfTorques(t *testing.T) {
	e := regulator()
	full := slices.Repeat([]int64{1000}, 2000)
	checkAlong(t, e, full, beat(200, 1), beat(200, 2001), nil, impl.OK)
	checkAlong(t, e, full[:1999], beat(200, 1), beat(200, 2000), nil, impl.OK)
	var missed []int64
	for i := range full {
		missed = append(missed, int64(i))
	}
	checkAlong(t, e, make([]int64, 2000), beat(500, 1), beat(0, 1), missed, impl.OK)
	checkAlong(t, e, append(slices.Repeat([]int64{1000}, 1999), 0), beat(200, 1), beat(180, 2000), []int64{1999}, impl.OK)
	for _, more := range []int{2001, 2002, 5000} {
		checkAlong(t, e, slices.Repeat([]int64{1000}, more), beat(200, 1), impl.Beat{}, nil, impl.ErrRange)
		checkAlong(t, e, make([]int64, more), beat(200, 1), impl.Beat{}, nil, impl.ErrRange)
		checkAlong(t, e, slices.Repeat([]int64{1000}, more), beat(200, 1000000000), impl.Beat{}, nil, impl.ErrRange)
		checkAlong(t, e, slices.Repeat([]int64{-1}, more), beat(200, 1), impl.Beat{}, nil, impl.ErrRange)
		checkAlong(t, e, slices.Repeat([]int64{1000}, more), beat(501, 1), impl.Beat{}, nil, impl.ErrInvalid)
	}
	for _, bad := range notTorques() {
		for _, torques := range [][]int64{{bad}, {1000, 1000, bad}, {bad, 1000}, {0, bad, 0}, append(full[:1999:1999], bad)} {
			checkAlong(t, e, torques, beat(200, 1), impl.Beat{}, nil, impl.ErrRange)
			// The torque behind the others is told before their swings are made.
			checkAlong(t, e, torques, beat(200, 1000000000), impl.Beat{}, nil, impl.ErrRange)
			checkAlong(t, e, torques, beat(501, 1000000000), impl.Beat{}, nil, impl.ErrInvalid)
		}
	}
}

func TestPromise11SwingsOneAfterTheOther(t *testing.T) {
	source := rand.New(rand.NewSource(112))
	kinds := map[string]int{}
	for range 3000 {
		e := anyEscapement(source)
		b := beat(source.Int63n(e.Most+1), source.Int63n(1000))
		if source.Intn(4) == 0 {
			b.Ticks = 1000000000 - source.Int63n(30)
		}
		var torques []int64
		for range source.Intn(60) {
			torques = append(torques, anyTorque(source))
		}
		want, missed, wantCode := expectAlong(e, torques, b)
		checkAlong(t, e, torques, b, want, missed, wantCode)
		if len(torques) > 0 {
			n := int64(len(torques))
			many, code := expectMany(e, torques[0], n, b)
			checkMany(t, e, torques[0], n, b, many, code)
			kinds[fmt.Sprint("many ", code)]++
		}
		// The same swings in two parts.
		k := source.Intn(len(torques) + 1)
		first, missedFirst, code := impl.SwingAlong(e, torques[:k], b)
		if code == impl.OK {
			var last impl.Beat
			var missedLast []int64
			last, missedLast, code = impl.SwingAlong(e, torques[k:], first)
			for _, i := range missedLast {
				missedFirst = append(missedFirst, i+int64(k))
			}
			if code == wantCode && (last != want || code == impl.OK && !slices.Equal(missedFirst, missed)) {
				t.Errorf("SwingAlong(%v, %v, %v) in two parts: got %v %v, want %v %v", e, torques, b, last, missedFirst, want, missed)
			}
		}
		if code != wantCode {
			t.Errorf("SwingAlong(%v, %v, %v) in two parts: got code %d, want %d", e, torques, b, code, wantCode)
		}
		kinds[fmt.Sprint("along ", code)]++
	}
	if kinds["many 0"] < 1000 || kinds["many 5"] < 50 || kinds["along 0"] < 1000 || kinds["along 5"] < 50 {
		t.Errorf("some kinds of swings were hardly tried: %v", kinds)
	}
}

// ticksOf returns how many of n swings with the same torque tick, by SwingMany.
func ticksOf(t *testing.T, e impl.Escapement, torque, n, energy int64) int64 {
	t.Helper()
	last, code := impl.SwingMany(e, torque, n, beat(energy, 0))
	if code != impl.OK {
		t.Fatalf("SwingMany(%v, %d, %d) from %d: got code %d", e, torque, n, energy, code)
	}
	return last.Ticks
}

func TestPromise11MoreEnergyOrTorqueNeverLeadsToFewerTicks(t *testing.T) {
	for _, e := range smallEscapements() {
		for _, n := range []int64{1, 2, 3, 30} {
			torques := someTorques()
			for i, torque := range torques {
				before := int64(0)
				for energy := int64(0); energy <= e.Most; energy++ {
					ticks := ticksOf(t, e, torque, n, energy)
					if ticks < before {
						t.Fatalf("%v, torque %d, %d swings: %d ticks from %d, but %d from one less", e, torque, n, ticks, energy, before)
					}
					if i > 0 && ticks < ticksOf(t, e, torques[i-1], n, energy) {
						t.Fatalf("%v, energy %d, %d swings: fewer ticks with the torque %d than with %d", e, energy, n, torque, torques[i-1])
					}
					before = ticks
				}
			}
		}
	}
}

func TestPromise11MoreEnergyOrTorqueOfAnyEscapement(t *testing.T) {
	source := rand.New(rand.NewSource(113))
	for range 4000 {
		e := anyEscapement(source)
		energy, torque, n := source.Int63n(e.Most+1), anyTorque(source), 1+source.Int63n(100)
		before := ticksOf(t, e, torque, n, energy)
		for _, more := range []int64{energy, min(energy+1, e.Most), e.Most, energy + source.Int63n(e.Most-energy+1)} {
			for _, stronger := range []int64{torque, min(torque+1, 1000), 1000, torque + source.Int63n(1001-torque)} {
				if got := ticksOf(t, e, stronger, n, more); got < before {
					t.Errorf("%v, %d swings: %d ticks from %d with %d, but %d from %d with %d", e, n, got, more, stronger, before, energy, torque)
				}
			}
		}
	}
}

func TestPromise11MoreEnergyOrTorqueAlongDifferentTorques(t *testing.T) {
	source := rand.New(rand.NewSource(114))
	for range 4000 {
		e := anyEscapement(source)
		energy := source.Int63n(e.Most + 1)
		var torques, stronger []int64
		for range 1 + source.Intn(40) {
			torque := anyTorque(source)
			torques = append(torques, torque)
			if torque > 0 {
				torque += source.Int63n(1001 - torque)
			}
			stronger = append(stronger, torque)
		}
		some, missed, code := impl.SwingAlong(e, torques, beat(energy, 0))
		if code != impl.OK || some.Ticks+int64(len(missed)) != int64(len(torques)) {
			t.Fatalf("SwingAlong(%v, %v) from %d: got %v %v, code %d", e, torques, energy, some, missed, code)
		}
		more, _, code := impl.SwingAlong(e, stronger, beat(energy+source.Int63n(e.Most-energy+1), 0))
		if code != impl.OK || more.Ticks < some.Ticks {
			t.Errorf("%v from %d: %d ticks with %v, but only %d with %v, code %d", e, energy, some.Ticks, torques, more.Ticks, stronger, code)
		}
	}
}

// Without a torque a swing takes no energy for unlocking, so that a torque that is too small may cost later ticks.
func TestPromise11ASmallTorqueInsteadOfNone(t *testing.T) {
	e := escapement(10, 30, 0, 500)
	checkAlong(t, e, []int64{0, 1000, 1000}, beat(19, 0), beat(59, 2), []int64{0}, impl.OK)
	checkAlong(t, e, []int64{1, 1000, 1000}, beat(19, 0), beat(9, 1), []int64{1, 2}, impl.OK)
}

func TestPromise11SteadyEnergy(t *testing.T) {
	for _, c := range []struct{ unlock, impulse, loss, most, torque, want, code int64 }{
		// From 191 to 200 all energies are the same after a swing.
		{10, 30, 100, 500, 1000, 200, impl.OK}, {10, 30, 100, 500, 999, 190, impl.OK}, {10, 30, 100, 500, 967, 190, impl.OK}, {10, 30, 100, 500, 966, 180, impl.OK}, {10, 31, 100, 500, 1000, 210, impl.OK},
		// Most is the greatest energy, and an impulse that is too great for it is cut off.
		{10, 30, 100, 200, 1000, 200, impl.OK}, {10, 30, 100, 201, 1000, 200, impl.OK}, {10, 30, 100, 199, 1000, 199, impl.OK}, {10, 30, 100, 191, 1000, 191, impl.OK}, {10, 30, 100, 190, 1000, 190, impl.OK}, {10, 30, 100, 50, 1000, 50, impl.OK}, {10, 100000, 100, 500, 1000, 500, impl.OK}, {10, 60, 100, 500, 1000, 500, impl.OK}, {10, 59, 100, 500, 1000, 490, impl.OK}, {1, 100000, 0, 100000, 1000, 100000, impl.OK},
		// Without a loss, all energies are the same after a swing, and all that tick if the impulse is Unlock.
		{10, 10, 0, 500, 1000, 500, impl.OK}, {10, 10, 0, 500, 999, 0, impl.ErrNotFound}, {10, 9, 0, 500, 1000, 0, impl.ErrNotFound}, {10, 11, 0, 500, 1000, 500, impl.OK}, {10, 10, 1, 500, 1000, 0, impl.ErrNotFound}, {10, 11, 1, 500, 1000, 500, impl.OK}, {10, 11, 1, 5000, 1000, 1000, impl.OK},
		// An energy of Unlock is steady only if it is Most.
		{10, 10, 0, 10, 1000, 10, impl.OK}, {10, 100000, 0, 10, 1000, 10, impl.OK}, {10, 100000, 1, 10, 1000, 0, impl.ErrNotFound}, {1, 1, 0, 1, 1000, 1, impl.OK}, {1, 1, 0, 1, 999, 0, impl.ErrNotFound}, {100000, 100000, 0, 100000, 1000, 100000, impl.OK}, {100000, 100000, 1, 100000, 1000, 0, impl.ErrNotFound},
		// The energy behind the loss is Unlock, one more and one less, with which a swing does not tick.
		{9, 10, 100, 500, 1000, 10, impl.OK}, {10, 11, 100, 500, 1000, 0, impl.ErrNotFound}, {8, 9, 100, 500, 1000, 10, impl.OK}, {18, 20, 100, 500, 1000, 20, impl.OK}, {19, 21, 100, 500, 1000, 0, impl.ErrNotFound}, {17, 19, 100, 500, 1000, 20, impl.OK},
		// Energies stay the same, but no swing ticks.
		{10, 30, 100, 500, 0, 0, impl.ErrNotFound}, {10, 30, 0, 500, 0, 0, impl.ErrNotFound}, {10, 0, 0, 500, 1000, 0, impl.ErrNotFound}, {500, 499, 0, 500, 1000, 0, impl.ErrNotFound}, {1, 1, 1000, 500, 1000, 0, impl.ErrNotFound}, {1, 100000, 1000, 100000, 1000, 0, impl.ErrNotFound}, {1, 100000, 999, 1000, 1000, 1000, impl.OK}, {1, 100000, 999, 999, 1000, 0, impl.ErrNotFound},
		{10, 30, 100, 500, 100, 0, impl.ErrNotFound}, {10, 30, 100, 500, 1, 0, impl.ErrNotFound}, {10, 30, 100, 500, 366, 0, impl.ErrNotFound}, {10, 30, 100, 500, 399, 0, impl.ErrNotFound}, {10, 30, 100, 500, 400, 20, impl.OK},
		// It takes the most swings to come to these from Most.
		{2, 1, 0, 100000, 1000, 0, impl.ErrNotFound}, {1, 2, 1, 100000, 1000, 1000, impl.OK}, {99, 100, 1, 100000, 1000, 1000, impl.OK}, {1, 0, 0, 100000, 1, 0, impl.ErrNotFound},
	} {
		e := escapement(c.unlock, c.impulse, c.loss, c.most)
		checkSteady(t, e, c.torque, c.want, c.code)
		if want, code := expectSteady(e, c.torque); want != c.want || code != c.code {
			t.Errorf("steady energy of %v with %d: got %d, code %d, by trying %d, code %d", e, c.torque, c.want, c.code, want, code)
		}
		if c.code == impl.OK {
			checkStop(t, e, c.torque, beat(c.want, 0), 0, impl.ErrNotFound)
			checkMany(t, e, c.torque, 2000, beat(c.want, 8), beat(c.want, 2008), impl.OK)
		}
	}
}

func TestPromise11SteadyEnergiesOfSmallEscapements(t *testing.T) {
	count := map[int64]int{}
	for _, e := range smallEscapements() {
		for _, torque := range someTorques() {
			want, code := expectSteady(e, torque)
			checkSteady(t, e, torque, want, code)
			count[code]++
		}
	}
	if count[impl.OK] < 1000 || count[impl.ErrNotFound] < 1000 {
		t.Errorf("the results are not of both kinds: %v", count)
	}
}

func TestPromise11SteadyEnergiesKeepGoing(t *testing.T) {
	source := rand.New(rand.NewSource(115))
	count := map[int64]int{}
	for range 2000 {
		e, torque := anyEscapement(source), anyTorque(source)
		want, code := expectSteady(e, torque)
		checkSteady(t, e, torque, want, code)
		count[code]++
		if code != impl.OK {
			continue
		}
		checkMany(t, e, torque, 2000, beat(want, 3), beat(want, 2003), impl.OK)
		for _, stronger := range []int64{torque, torque + source.Int63n(1001-torque), 1000} {
			more := want + source.Int63n(e.Most-want+1)
			checkStop(t, e, stronger, beat(more, 1000000000), 0, impl.ErrNotFound)
			if ticks := ticksOf(t, e, stronger, 2000, more); ticks != 2000 {
				t.Errorf("%v with %d from %d, not less than the steady %d: only %d ticks", e, stronger, more, want, ticks)
			}
		}
	}
	if count[impl.OK] < 300 || count[impl.ErrNotFound] < 300 {
		t.Errorf("the results are not of both kinds: %v", count)
	}
}

func TestPromise11StopAfter(t *testing.T) {
	for _, c := range []struct{ unlock, impulse, loss, most, torque, energy, want, code int64 }{
		{10, 30, 100, 500, 1000, 200, 0, impl.ErrNotFound}, {10, 30, 100, 500, 1000, 500, 0, impl.ErrNotFound}, {10, 30, 100, 500, 1000, 12, 0, impl.ErrNotFound},
		{10, 30, 100, 500, 1000, 11, 0, impl.OK}, {10, 30, 100, 500, 1000, 0, 0, impl.OK}, {10, 30, 100, 500, 0, 30, 0, impl.OK}, {10, 30, 100, 500, 0, 500, 0, impl.OK}, {10, 30, 0, 500, 0, 500, 0, impl.OK}, {10, 30, 0, 500, 1000, 9, 0, impl.OK}, {1, 1, 1000, 500, 1000, 500, 0, impl.OK},
		{10, 30, 100, 500, 100, 30, 2, impl.OK}, {10, 30, 100, 500, 100, 12, 1, impl.OK}, {10, 30, 100, 500, 100, 11, 0, impl.OK}, {10, 30, 100, 500, 1, 12, 1, impl.OK},
		// An energy that is restored, with a tick and without one.
		{10, 10, 0, 500, 1000, 10, 0, impl.ErrNotFound}, {10, 10, 0, 500, 1000, 9, 0, impl.OK}, {10, 10, 0, 500, 999, 10, 1, impl.OK}, {10, 10, 0, 500, 999, 500, 491, impl.OK}, {10, 11, 100, 500, 1000, 12, 1, impl.OK}, {9, 10, 100, 500, 1000, 10, 0, impl.ErrNotFound},
		// Most cuts the impulse off.
		{10, 100000, 0, 10, 1000, 10, 0, impl.ErrNotFound}, {10, 100000, 1, 10, 1000, 10, 0, impl.OK}, {10, 100000, 100, 12, 1000, 12, 0, impl.ErrNotFound},
		// More swings than MaxSwings.
		{1, 0, 0, 100000, 1000, 100000, 100000, impl.OK}, {1, 0, 0, 100000, 1, 2000, 2000, impl.OK}, {1, 0, 0, 100000, 1, 2001, 2001, impl.OK}, {1, 0, 0, 100000, 1, 99999, 99999, impl.OK}, {2, 0, 0, 100000, 1000, 99999, 49999, impl.OK}, {2, 1, 0, 100000, 1000, 100000, 99999, impl.OK}, {99, 98, 0, 100000, 1000, 100000, 99902, impl.OK}, {99, 98, 0, 100000, 1000, 99, 1, impl.OK},
	} {
		e := escapement(c.unlock, c.impulse, c.loss, c.most)
		for _, ticks := range []int64{0, 7, 999999999, 1000000000} {
			b := beat(c.energy, ticks)
			checkStop(t, e, c.torque, b, c.want, c.code)
			if want, code := expectStop(e, c.torque, b); want != c.want || code != c.code {
				t.Errorf("%v with %d from %d: stops after %d, code %d, by trying %d, code %d", e, c.torque, c.energy, c.want, c.code, want, code)
			}
		}
	}
}

func TestPromise11StopsOfSmallEscapements(t *testing.T) {
	for _, e := range smallEscapements() {
		for _, torque := range someTorques() {
			for energy := int64(0); energy <= e.Most; energy++ {
				want, code := expectStop(e, torque, beat(energy, 0))
				checkStop(t, e, torque, beat(energy, 1000000000-energy%2), want, code)
			}
		}
	}
}

func TestPromise11SwingsBeforeTheStopTick(t *testing.T) {
	source := rand.New(rand.NewSource(116))
	count := map[string]int{}
	for range 3000 {
		e, torque := anyEscapement(source), anyTorque(source)
		if source.Intn(10) == 0 {
			// Only without a loss there are many ticks before the stop.
			e = escapement(3, source.Int63n(4), 0, 100000)
		}
		b := beat(source.Int63n(e.Most+1), 5)
		want, code := expectStop(e, torque, b)
		checkStop(t, e, torque, b, want, code)
		switch {
		case code == impl.ErrNotFound:
			count["never"]++
			checkMany(t, e, torque, 2000, b, expectedAfter(e, torque, 2000, b), impl.OK)
		case want < 2000:
			count[fmt.Sprint("soon ", min(want, 2))]++
			_, missed, _ := impl.SwingAlong(e, slices.Repeat([]int64{torque}, int(want)+1), b)
			if !slices.Equal(missed, []int64{want}) {
				t.Errorf("%v with %d from %v: the swings %v do not tick, want %d", e, torque, b, missed, want)
			}
			last, _ := impl.SwingMany(e, torque, 2000, b)
			if last.Ticks != 5+want {
				t.Errorf("%v with %d from %v: got %v after the stop, want %d more ticks", e, torque, b, last, want)
			}
		default:
			count["late"]++
			checkMany(t, e, torque, 2000, b, expectedAfter(e, torque, 2000, b), impl.OK)
		}
	}
	for _, kind := range []string{"never", "soon 0", "soon 1", "soon 2", "late"} {
		if count[kind] < 50 {
			t.Errorf("the results are not of all kinds: %v", count)
		}
	}
}

func expectedAfter(e impl.Escapement, torque, n int64, b impl.Beat) impl.Beat {
	for range n {
		b = expectSwing(e, torque, b)
	}
	return b
}

func TestPromise11LeastTorque(t *testing.T) {
	for _, c := range []struct{ unlock, impulse, loss, most, n, energy, want, code int64 }{
		// A first swing needs no impulse, but a torque.
		{10, 30, 100, 500, 1, 12, 1, impl.OK}, {10, 30, 100, 500, 1, 500, 1, impl.OK}, {10, 30, 100, 500, 1, 11, 0, impl.ErrNotFound}, {10, 30, 100, 500, 2000, 11, 0, impl.ErrNotFound}, {10, 30, 100, 500, 1, 0, 0, impl.ErrNotFound}, {10, 0, 0, 500, 1, 10, 1, impl.OK}, {10, 0, 0, 500, 50, 500, 1, impl.OK}, {10, 0, 0, 500, 51, 500, 0, impl.ErrNotFound},
		{10, 30, 100, 500, 2, 12, 400, impl.OK}, {10, 30, 100, 500, 2000, 12, 400, impl.OK}, {10, 30, 100, 500, 2000, 200, 400, impl.OK}, {10, 30, 100, 500, 2, 30, 1, impl.OK}, {10, 30, 100, 500, 3, 30, 134, impl.OK}, {10, 30, 100, 500, 2, 22, 100, impl.OK}, {10, 30, 100, 500, 2, 24, 34, impl.OK}, {10, 30, 100, 500, 2, 25, 1, impl.OK},
		// Torques of MaxTorque, which are just enough and do not suffice.
		{10, 12, 100, 500, 2, 12, 1000, impl.OK}, {10, 11, 100, 500, 2, 12, 0, impl.ErrNotFound}, {10, 13, 100, 500, 2, 12, 924, impl.OK}, {10, 10, 0, 500, 2000, 10, 1000, impl.OK}, {10, 9, 0, 500, 2, 10, 0, impl.ErrNotFound}, {10, 10, 0, 10, 2, 10, 1000, impl.OK}, {10, 10, 0, 500, 2000, 9, 0, impl.ErrNotFound}, {10, 11, 0, 500, 2000, 10, 910, impl.OK}, {10, 10000, 0, 500, 2000, 10, 1, impl.OK}, {10, 9999, 0, 500, 2000, 10, 2, impl.OK},
		{1, 1, 0, 2000, 2000, 2000, 1, impl.OK}, {1, 1, 0, 2000, 2000, 1999, 1000, impl.OK}, {1, 1, 0, 2000, 1999, 1999, 1, impl.OK}, {1, 0, 0, 2000, 2000, 1999, 0, impl.ErrNotFound}, {1, 100000, 0, 100000, 2000, 1, 1, impl.OK}, {1, 100000, 1000, 100000, 1, 100000, 0, impl.ErrNotFound},
		{100000, 100000, 0, 100000, 1, 100000, 1, impl.OK}, {100000, 100000, 0, 100000, 2, 100000, 1000, impl.OK}, {100000, 99999, 0, 100000, 2, 100000, 0, impl.ErrNotFound}, {100000, 100000, 1, 100000, 1, 100000, 0, impl.ErrNotFound},
	} {
		e := escapement(c.unlock, c.impulse, c.loss, c.most)
		for _, ticks := range []int64{0, 999998000, 999999999, 1000000000} {
			checkTorque(t, e, c.n, beat(c.energy, ticks), c.want, c.code)
		}
		if want, code := expectTorque(e, c.n, beat(c.energy, 0)); want != c.want || code != c.code {
			t.Errorf("least torque of %v for %d swings from %d: got %d, code %d, by trying %d, code %d", e, c.n, c.energy, c.want, c.code, want, code)
		}
		if c.code == impl.OK {
			if got, less := ticksOf(t, e, c.want, c.n, c.energy), ticksOf(t, e, c.want-1, c.n, c.energy); got != c.n || less >= c.n {
				t.Errorf("%v: of %d swings from %d, %d tick with the torque %d and %d with one less", e, c.n, c.energy, got, c.want, less)
			}
		} else if ticksOf(t, e, 1000, c.n, c.energy) >= c.n {
			t.Errorf("%v: all of %d swings from %d tick", e, c.n, c.energy)
		}
	}
}

func TestPromise11LeastTorquesAreLeast(t *testing.T) {
	source := rand.New(rand.NewSource(117))
	count := map[string]int{}
	check := func(e impl.Escapement, n, energy int64) {
		want, code := expectTorque(e, n, beat(energy, 0))
		checkTorque(t, e, n, beat(energy, source.Int63n(1000000001)), want, code)
		switch {
		case code != impl.OK:
			count["none"]++
		case want == 1:
			count["one"]++
		default:
			count["more"]++
		}
	}
	for _, e := range smallEscapements() {
		for energy := int64(0); energy <= e.Most; energy += 1 + energy/4 {
			for _, n := range []int64{1, 2, 5} {
				check(e, n, energy)
			}
		}
	}
	for range 1000 {
		e := anyEscapement(source)
		check(e, []int64{1, 2, 10, 1999, 2000, 1 + source.Int63n(2000)}[source.Intn(6)], source.Int63n(e.Most+1))
	}
	if count["none"] < 500 || count["one"] < 500 || count["more"] < 500 {
		t.Errorf("the results are not of all kinds: %v", count)
	}
}

// No least energy is 0, because Unlock is at least 1; the nearest one is 1.
func TestPromise11LeastStart(t *testing.T) {
	for _, c := range []struct{ unlock, impulse, loss, most, torque, n, want, code int64 }{
		{10, 30, 100, 500, 1000, 1, 12, impl.OK}, {10, 30, 100, 500, 1000, 2000, 12, impl.OK}, {10, 30, 100, 500, 0, 1, 0, impl.ErrNotFound}, {10, 30, 100, 500, 1, 1, 12, impl.OK}, {10, 30, 100, 500, 1, 2, 25, impl.OK}, {10, 30, 100, 500, 100, 2, 22, impl.OK}, {10, 30, 100, 500, 100, 2000, 0, impl.ErrNotFound}, {10, 30, 100, 500, 399, 2000, 0, impl.ErrNotFound}, {10, 30, 100, 500, 400, 2000, 12, impl.OK},
		{1, 1, 0, 1, 1000, 1, 1, impl.OK}, {1, 1, 0, 1, 1000, 2000, 1, impl.OK}, {1, 0, 0, 100000, 1, 1, 1, impl.OK}, {1, 0, 0, 100000, 1, 2, 2, impl.OK}, {1, 0, 0, 100000, 1000, 2000, 2000, impl.OK}, {1, 0, 0, 100000, 1000, 1999, 1999, impl.OK}, {1, 100000, 0, 100000, 1000, 2000, 1, impl.OK}, {1, 100000, 0, 100000, 0, 1, 0, impl.ErrNotFound}, {1, 1, 1000, 100000, 1000, 1, 0, impl.ErrNotFound}, {1, 1, 999, 100000, 1000, 1, 1000, impl.OK},
		// Energies of Most, which are just enough and do not suffice.
		{1, 0, 0, 2000, 1000, 2000, 2000, impl.OK}, {1, 0, 0, 1999, 1000, 2000, 0, impl.ErrNotFound}, {1, 0, 0, 2001, 1000, 2000, 2000, impl.OK}, {10, 30, 100, 12, 1000, 1, 12, impl.OK}, {10, 30, 100, 11, 1000, 1, 0, impl.ErrNotFound}, {10, 30, 100, 13, 1000, 1, 12, impl.OK}, {10, 10, 0, 10, 1000, 2000, 10, impl.OK}, {10, 10, 0, 10, 999, 2, 0, impl.ErrNotFound}, {10, 10, 0, 10, 999, 1, 10, impl.OK}, {100000, 100000, 0, 100000, 1000, 2000, 100000, impl.OK}, {100000, 100000, 0, 100000, 999, 2, 0, impl.ErrNotFound}, {100000, 100000, 1, 100000, 1000, 1, 0, impl.ErrNotFound}, {50, 0, 0, 100000, 1000, 2000, 100000, impl.OK}, {50, 0, 0, 99999, 1000, 2000, 0, impl.ErrNotFound}, {51, 0, 0, 100000, 1000, 2000, 0, impl.ErrNotFound}, {51, 0, 0, 100000, 1000, 1960, 99960, impl.OK},
	} {
		e := escapement(c.unlock, c.impulse, c.loss, c.most)
		checkStart(t, e, c.torque, c.n, c.want, c.code)
		if c.code == impl.OK {
			if got, less := ticksOf(t, e, c.torque, c.n, c.want), ticksOf(t, e, c.torque, c.n, c.want-1); got != c.n || less >= c.n {
				t.Errorf("%v: of %d swings with %d, %d tick from %d and %d from one less", e, c.n, c.torque, got, c.want, less)
			}
		} else if ticksOf(t, e, c.torque, c.n, c.most) >= c.n {
			t.Errorf("%v: all of %d swings with %d tick from Most", e, c.n, c.torque)
		}
	}
}

func TestPromise11LeastEnergiesAreLeast(t *testing.T) {
	count := map[int64]int{}
	for _, e := range smallEscapements() {
		for _, torque := range someTorques() {
			for _, n := range []int64{1, 2, 3, 5, 2000} {
				want, code := expectStart(e, torque, n)
				checkStart(t, e, torque, n, want, code)
				count[code]++
			}
		}
	}
	source := rand.New(rand.NewSource(118))
	for range 3000 {
		e, torque, n := anyEscapement(source), anyTorque(source), []int64{1, 2, 10, 1999, 2000, 1 + source.Int63n(2000)}[source.Intn(6)]
		got, code := impl.LeastStart(e, torque, n)
		count[code]++
		switch {
		case code == impl.ErrNotFound && got == 0 && ticksWithin(e, torque, n, e.Most) < n:
		case code == impl.OK && got > 0 && ticksWithin(e, torque, n, got) == n && ticksWithin(e, torque, n, got-1) < n:
		default:
			t.Errorf("LeastStart(%v, %d, %d): got %d, code %d", e, torque, n, got, code)
		}
		if code == impl.OK && n == 1 && got-lostOf(e, got) != e.Unlock {
			t.Errorf("LeastStart(%v, %d, 1): got %d, which the loss does not lower to Unlock", e, torque, got)
		}
	}
	if count[impl.OK] < 1000 || count[impl.ErrNotFound] < 1000 {
		t.Errorf("the results are not of both kinds: %v", count)
	}
}

func TestPromise11WheelTurns(t *testing.T) {
	for _, c := range []struct {
		teeth, ticks int64
		want         impl.Ratio
	}{
		{30, 0, over(0, 1)}, {30, 60, over(1, 1)}, {30, 120, over(2, 1)}, {30, 90, over(3, 2)}, {30, 1, over(1, 60)}, {30, 59, over(59, 60)}, {30, 61, over(61, 60)}, {30, 2, over(1, 30)}, {30, 45, over(3, 4)},
		{6, 12, over(1, 1)}, {6, 1, over(1, 12)}, {6, 8, over(2, 3)}, {120, 240, over(1, 1)}, {120, 1, over(1, 240)}, {120, 239, over(239, 240)}, {7, 7, over(1, 2)}, {7, 15, over(15, 14)},
		{30, 1000000000, over(50000000, 3)}, {30, 999999999, over(333333333, 20)}, {6, 1000000000, over(250000000, 3)}, {6, 999999999, over(333333333, 4)}, {7, 999999999, over(999999999, 14)}, {120, 1000000000, over(12500000, 3)}, {120, 999999960, over(8333333, 2)}, {120, 960000000, over(4000000, 1)}, {113, 999999999, over(999999999, 226)},
	} {
		for _, energy := range []int64{0, 200, 500} {
			e := regulator()
			e.Teeth = c.teeth
			checkTurns(t, e, beat(energy, c.ticks), c.want, impl.OK)
		}
	}
	for teeth := int64(6); teeth <= 120; teeth++ {
		e := regulator()
		e.Teeth = teeth
		for _, ticks := range []int64{0, 1, 2, teeth - 1, teeth, teeth + 1, 2*teeth - 1, 2 * teeth, 2*teeth + 1, 24 * teeth, 3600, 86400, 999999998, 999999999, 1000000000} {
			want, _ := expectWheelTurns(e, beat(0, ticks))
			checkTurns(t, e, beat(0, ticks), want, impl.OK)
		}
	}
}

func TestPromise11ErrorsInTheirOrder(t *testing.T) {
	e := regulator()
	full := beat(200, 1000000000)
	numbers := []int64{0, 1, 1000, 2000, -1, 1001, 2001}
	checkInvalid := func(e impl.Escapement, b impl.Beat) {
		for _, torque := range numbers {
			checkSwing(t, e, torque, b, impl.Beat{}, false, impl.ErrInvalid)
			checkAlong(t, e, []int64{torque}, b, impl.Beat{}, nil, impl.ErrInvalid)
			checkStop(t, e, torque, b, 0, impl.ErrInvalid)
			for _, n := range numbers {
				checkMany(t, e, torque, n, b, impl.Beat{}, impl.ErrInvalid)
				checkTorque(t, e, n, b, 0, impl.ErrInvalid)
			}
		}
		checkAlong(t, e, nil, b, impl.Beat{}, nil, impl.ErrInvalid)
		checkAlong(t, e, make([]int64, 2001), b, impl.Beat{}, nil, impl.ErrInvalid)
		checkTurns(t, e, b, impl.Ratio{}, impl.ErrInvalid)
	}
	for _, b := range badBeats() {
		checkInvalid(e, b)
	}
	for _, bad := range badEscapements() {
		for _, b := range []impl.Beat{{}, full, beat(min(max(bad.Most, 0), 500), 0), beat(-1, -1)} {
			checkInvalid(bad, b)
		}
		for _, torque := range numbers {
			checkSteady(t, bad, torque, 0, impl.ErrInvalid)
			for _, n := range numbers {
				checkStart(t, bad, torque, n, 0, impl.ErrInvalid)
			}
		}
	}
	for _, bad := range notTorques() {
		for _, b := range []impl.Beat{full, beat(200, 0), beat(11, 0), {}} {
			checkSwing(t, e, bad, b, impl.Beat{}, false, impl.ErrRange)
			checkStop(t, e, bad, b, 0, impl.ErrRange)
			checkMany(t, e, bad, 1, b, impl.Beat{}, impl.ErrRange)
		}
		checkSteady(t, e, bad, 0, impl.ErrRange)
		checkSteady(t, escapement(10, 0, 0, 500), bad, 0, impl.ErrRange)
		for _, n := range numbers {
			checkStart(t, e, bad, n, 0, impl.ErrRange)
		}
	}
	for _, bad := range append(farNumbers(), -1, -2000, 0, 2001, 2002, 100000, 1<<32+1) {
		for _, b := range []impl.Beat{full, beat(200, 0), beat(11, 0), {}} {
			checkTorque(t, e, bad, b, 0, impl.ErrRange)
		}
		for _, torque := range []int64{1000, 1, 0} {
			checkStart(t, e, torque, bad, 0, impl.ErrRange)
			checkStart(t, escapement(10, 0, 1000, 500), torque, bad, 0, impl.ErrRange)
		}
	}
}

// escapementResults returns all that the functions of escapements tell.
func escapementResults(e impl.Escapement, torques []int64, n int64, b impl.Beat) string {
	var text strings.Builder
	tell := func(values ...any) { text.WriteString(fmt.Sprintln(values...)) }
	tell(impl.ValidEscapement(e), impl.ValidBeat(e, b))
	last, missed, code := impl.SwingAlong(e, torques, b)
	tell(last, missed, code)
	// What is behind the end of a result is nobody's.
	clear(missed[:cap(missed)])
	for _, torque := range torques[:min(len(torques), 3)] {
		next, tick, code := impl.Swing(e, torque, b)
		tell(next, tick, code)
		many, code := impl.SwingMany(e, torque, n, b)
		tell(many, code)
		steady, code := impl.SteadyEnergy(e, torque)
		tell(steady, code)
		stop, code := impl.StopAfter(e, torque, b)
		tell(stop, code)
		start, code := impl.LeastStart(e, torque, n)
		tell(start, code)
	}
	least, code := impl.LeastTorque(e, n, b)
	tell(least, code)
	turns, code := impl.WheelTurns(e, b)
	tell(turns, code)
	return text.String()
}

// expectedResults returns what escapementResults should be, by trying.
func expectedResults(e impl.Escapement, torques []int64, n int64, b impl.Beat) string {
	var text strings.Builder
	tell := func(values ...any) { text.WriteString(fmt.Sprintln(values...)) }
	tell(isEscapement(e), isBeat(e, b))
	last, missed, code := expectAlong(e, torques, b)
	tell(last, missed, code)
	for _, torque := range torques[:min(len(torques), 3)] {
		next, missed, code := expectAlong(e, []int64{torque}, b)
		tell(next, len(missed) == 0 && code == impl.OK, code)
		many, code := expectMany(e, torque, n, b)
		tell(many, code)
		steady, code := expectSteady(e, torque)
		tell(steady, code)
		stop, code := expectStop(e, torque, b)
		tell(stop, code)
		start, code := expectStart(e, torque, n)
		tell(start, code)
	}
	least, code := expectTorque(e, n, b)
	tell(least, code)
	turns, code := expectWheelTurns(e, b)
	tell(turns, code)
	return text.String()
}

func TestPromise11AllResultsWithAnyNumbers(t *testing.T) {
	source := rand.New(rand.NewSource(119))
	numbers := append(farNumbers(), -1, 0, 1, 2, 5, 6, 10, 30, 120, 121, 1000, 1001, 2000, 2001, 100001, 1000000000, 1000000001)
	one := func() int64 { return numbers[source.Intn(len(numbers))] }
	for range 10000 {
		e := escapement(1+source.Int63n(20), source.Int63n(40), []int64{0, 1, 100, 500}[source.Intn(4)], 20+source.Int63n(40))
		b, n := beat(source.Int63n(e.Most+1), source.Int63n(1000000001)), 1+source.Int63n(30)
		torques := []int64{anyTorque(source), anyTorque(source), anyTorque(source), anyTorque(source)}
		fields := []*int64{&e.Teeth, &e.Unlock, &e.Impulse, &e.Loss, &e.Most, &b.Energy, &b.Ticks, &n, &torques[0], &torques[1], &torques[3]}
		for range source.Intn(4) {
			*fields[source.Intn(len(fields))] = one()
		}
		got, want := escapementResults(e, torques, n, b), expectedResults(e, torques, n, b)
		if got != want {
			t.Errorf("results for %v, %v, %d, %v: got %s, want %s", e, torques, n, b, got, want)
		}
		if again := escapementResults(e, torques, n, b); again != got {
			t.Errorf("results for %v, %v, %d, %v: got %s, but %s before", e, torques, n, b, again, got)
		}
	}
}

func TestPromise1TorquesAreNotModified(t *testing.T) {
	source := rand.New(rand.NewSource(120))
	for range 1000 {
		e := anyEscapement(source)
		b := beat(source.Int63n(e.Most+1), 5)
		var whole []int64
		for range source.Intn(40) {
			whole = append(whole, anyTorque(source))
		}
		if len(whole) > 0 && source.Intn(4) == 0 {
			whole[source.Intn(len(whole))] = 1001
		}
		torques := whole[:source.Intn(len(whole)+1)]
		before := slices.Clone(whole)
		last, missed, code := impl.SwingAlong(e, torques, b)
		want := fmt.Sprint(last, missed, code)
		for i := range missed[:cap(missed)] {
			missed[:cap(missed)][i] = -7
		}
		if !slices.Equal(whole, before) {
			t.Errorf("SwingAlong(%v, %v, %v) changed the torques to %v", e, before, b, whole)
		}
		if last, missed, code := impl.SwingAlong(e, torques, b); fmt.Sprint(last, missed, code) != want {
			t.Errorf("SwingAlong(%v, %v, %v): got %v %v, code %d, but %s before", e, torques, b, last, missed, code, want)
		}
	}
	for _, b := range []impl.Beat{beat(200, 5), {}, beat(501, 0)} {
		if nothing, empty := escapementResults(regulator(), nil, 5, b), escapementResults(regulator(), make([]int64, 0, 3), 5, b); nothing != empty {
			t.Errorf("nil torques lead to %s, empty ones to %s", nothing, empty)
		}
	}
}

func TestPromise1EscapementsFromSeveralGoroutines(t *testing.T) {
	source := rand.New(rand.NewSource(121))
	var list []impl.Escapement
	for range 100 {
		list = append(list, anyEscapement(source))
	}
	list = append(list, badEscapements()[:20]...)
	torques := []int64{1000, 0, 900, 1000, 1, 999}
	var want []string
	for _, e := range list {
		want = append(want, escapementResults(e, torques, 50, beat(e.Most/2, 3)))
	}
	var all sync.WaitGroup
	for range 8 {
		all.Go(func() {
			for i, e := range slices.Backward(list) {
				if got := escapementResults(e, torques, 50, beat(e.Most/2, 3)); got != want[i] {
					t.Errorf("results for %v: got %s, want %s", e, got, want[i])
				}
			}
		})
	}
	all.Wait()
}
