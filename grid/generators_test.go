package grid_test

import (
	"math/rand"
	"slices"
	"testing"

	"spillage/api"
	"spillage/expect"
	"spillage/grid"
)

// P9.1

func TestPhasor(t *testing.T) {
	for _, x := range []struct {
		l [4]float32
		z api.Gauss
	}{
		{[4]float32{1, 2, 3, 5}, z(-32, 48)}, {[4]float32{}, z(0, 0)}, {[4]float32{1, 0, 0, 0}, z(16, 0)}, {[4]float32{0, 1, 0, 0}, z(0, -16)}, {[4]float32{0, 0, 1, 0}, z(-16, 0)}, {[4]float32{0, 0, 0, 1}, z(0, 16)}, {[4]float32{7, 7, 7, 7}, z(0, 0)}, {[4]float32{1, -1, 1, -1}, z(0, 0)}, {[4]float32{0.0625, 0, 0, -0.0625}, z(1, -1)}, {[4]float32{minusZero(), 0, minusZero(), minusZero()}, z(0, 0)},
		{[4]float32{1024, -1024, -1024, 1024}, z(32768, 32768)}, {[4]float32{-1024, 1024, 1024, -1024}, z(-32768, -32768)}, {[4]float32{1023.9375, 0, 0.0625, 1024}, z(16382, 16384)},
	} {
		got, e := grid.Phasor(x.l)
		expect.Result(t, "Phasor", got, e, x.z, api.OK)
	}
}

func TestPhasorOfRandomSamples(t *testing.T) {
	rnd := rand.New(rand.NewSource(1))
	for range 2000 {
		l := list(rnd, 4, -16384, 16384)
		got, e := grid.Phasor([4]float32(samples(l...)))
		expect.Result(t, "Phasor", got, e, elementOf(l, 1), api.OK)
	}
}

func TestCheckWindow(t *testing.T) {
	for _, w := range []grid.Window{shown(), window(0, 1, 0, 0), window(1000, 1000, 1000, 1000), window(0, 1000, 0, 1000), window(1000, 1, 7, 7)} {
		expect.Err(t, "CheckWindow", grid.CheckWindow(w), api.OK)
	}
}

func TestInStep(t *testing.T) {
	full := 1 << 20
	for _, x := range []struct {
		grid, generator api.Gauss
		w               grid.Window
		is              bool
	}{
		{z(10, 0), z(9, 4), shown(), true}, {z(10, 0), z(9, -4), shown(), true}, {z(10, 0), z(9, 5), shown(), false}, {z(10, 0), z(9, -5), shown(), false}, {z(10, 0), z(11, 0), shown(), false}, {z(10, 0), z(10, 4), shown(), true}, {z(10, 0), z(10, 0), shown(), true}, {z(10, 0), z(-10, 0), shown(), false}, {z(10, 0), z(0, 0), shown(), false}, {z(10, 0), z(0, 0), window(1000, 1, 0, 1000), false},
		// the ends of the window
		{z(10, 0), z(8, 4), shown(), true}, {z(10, 0), z(8, -4), shown(), true}, {z(10, 0), z(8, 4), window(1, 2, 81, 120), false}, {z(10, 0), z(8, 4), window(1, 3, 80, 120), false}, {z(10, 0), z(9, 0), window(0, 1, 81, 81), true}, {z(10, 0), z(9, 0), window(0, 1, 82, 1000), false}, {z(10, 0), z(9, 0), window(0, 1, 0, 80), false}, {z(10, 0), z(11, 2), window(1, 5, 0, 125), true}, {z(10, 0), z(11, 2), window(1, 5, 0, 124), false}, {z(10, 0), z(11, 2), window(2, 11, 125, 125), true}, {z(10, 0), z(11, 2), window(1, 6, 125, 125), false}, {z(7, 0), z(7, 1), window(1, 7, 102, 103), true}, {z(7, 0), z(7, 1), window(1, 7, 103, 103), false}, {z(7, 0), z(7, 1), window(1, 7, 100, 102), false},
		// no turn, and nearly a quarter
		{z(10, 0), z(10, 0), window(0, 1, 100, 100), true}, {z(10, 0), z(10, 1), window(0, 1, 0, 1000), false}, {z(3, 4), z(6, 8), window(0, 1, 400, 400), true}, {z(3, 4), z(6, 8), window(0, 1, 0, 399), false}, {z(1, 0), z(1, 1000), window(1000, 1, 0, 1000), false}, {z(1000, 0), z(1, 1000), window(1000, 1, 0, 1000), true}, {z(1000, 0), z(1, 1001), window(1000, 1, 0, 1000), false}, {z(1000, 0), z(0, 1000), window(1000, 1, 0, 1000), false}, {z(1000, 0), z(-1, 1000), window(1000, 1, 0, 1000), false},
		// the same, turned with the grid
		{z(0, 10), z(-4, 9), shown(), true}, {z(0, 10), z(-5, 9), shown(), false}, {z(-10, 0), z(-9, -4), shown(), true}, {z(-10, 0), z(9, 4), shown(), false}, {z(0, -10), z(4, -9), shown(), true}, {z(6, 8), z(9, 4), shown(), false}, {z(6, 8), z(7, 7), shown(), true},
		{z(full, full), z(full, full), window(0, 1000, 100, 100), true}, {z(full, full), z(full, full-1), window(1, 1000, 100, 100), false}, {z(full, full), z(full, full-1), window(1, 1000, 99, 100), true}, {z(full, full), z(full, full-1), window(0, 1000, 99, 100), false}, {z(-full, full), z(-full, full), window(1000, 1, 0, 1000), true}, {z(full, -full), z(-full, full), window(1000, 1, 0, 1000), false}, {z(1, 0), z(full, full), window(1000, 1, 0, 1000), false}, {z(full, full), z(1, 0), window(1, 1, 0, 0), false},
	} {
		is, e := grid.InStep(x.grid, x.generator, x.w)
		if is != x.is || e != api.OK {
			t.Errorf("InStep %v %v %v: %v, error %d", x.grid, x.generator, x.w, is, e)
		}
	}
}

func TestInStepOfRandomPhasors(t *testing.T) {
	rnd := rand.New(rand.NewSource(2))
	counts := map[bool]int{}
	for range 30000 {
		reach := pick(rnd, 3, 10, 100, 1<<20)
		a, w := randomPhasor(rnd, reach), randomWindow(rnd)
		b := randomPhasor(rnd, reach)
		if rnd.Intn(2) == 0 {
			near := reach/10 + 1
			b = z(min(max(a.Re+between(rnd, -near, near), -reach), reach), min(max(a.Im+between(rnd, -near, near), -reach), reach))
		}
		wanted := inStepOf(a, b, w)
		counts[wanted]++
		if is, e := grid.InStep(a, b, w); is != wanted || e != api.OK {
			t.Fatalf("InStep %v %v %v: %v, error %d, want %v", a, b, w, is, e, wanted)
		}
	}
	if counts[true] < 2000 || counts[false] < 2000 {
		t.Errorf("the counts are %v", counts)
	}
}

func TestJoined(t *testing.T) {
	in, out := ints(10, 0), ints(0, 9)
	parts := func(l ...[]int) []api.Gauss { return phasors(slices.Concat(l...)...) }
	for _, x := range []struct {
		generators []api.Gauss
		hold, n    int
		e          api.Errno
	}{
		{phasors(0, 9, 10, 0, 10, 0, 9, 0), 2, 2, api.OK}, {phasors(0, 9, 10, 0, 10, 0, 9, 0), 1, 1, api.OK}, {phasors(0, 9, 10, 0, 10, 0, 9, 0), 3, 3, api.OK}, {phasors(0, 9, 10, 0, 10, 0, 9, 0), 4, 0, api.ErrNone}, {phasors(0, 9, 10, 0, 10, 0, 9, 0), 64, 0, api.ErrNone},
		{parts(in), 1, 0, api.OK}, {parts(out), 1, 0, api.ErrNone}, {parts(in), 2, 0, api.ErrNone}, {nil, 1, 0, api.ErrNone}, {phasors(0, 0), 1, 0, api.ErrNone}, {phasors(0, 0, 10, 0), 1, 1, api.OK}, {parts(in, in, out, in, in, in), 3, 5, api.OK}, {parts(in, in, out, in, in, in), 2, 1, api.OK}, {parts(in, in, out, in, in, out), 3, 0, api.ErrNone}, {parts(in, out, in, out, in, out), 2, 0, api.ErrNone}, {parts(out, out, in, in, in, in), 2, 3, api.OK}, {parts(in, in, in, in), 4, 3, api.OK}, {parts(in, in, in, out, in), 4, 0, api.ErrNone},
		{still(256), 64, 63, api.OK}, {still(64), 64, 63, api.OK}, {still(63), 64, 0, api.ErrNone}, {append(slices.Repeat(parts(out), 192), still(64)...), 64, 255, api.OK}, {append(slices.Repeat(parts(out), 193), still(63)...), 64, 0, api.ErrNone},
	} {
		n, e := grid.Joined(still(len(x.generators)), x.generators, shown(), x.hold)
		expect.Result(t, "Joined", n, e, x.n, x.e)
	}
	// the grid turns, and the generator does not
	n, e := grid.Joined(phasors(0, 10, -10, 0, 0, -10, 10, 0, 10, 1), still(5), shown(), 2)
	expect.Result(t, "Joined of a grid that turns", n, e, 4, api.OK)
}

func TestJoinedOfRandomPhasors(t *testing.T) {
	rnd := rand.New(rand.NewSource(3))
	counts := map[bool]int{}
	for range 5000 {
		var a, b []api.Gauss
		for range rnd.Intn(40) {
			x := randomPhasor(rnd, 20)
			a, b = append(a, x), append(b, z(x.Re+between(rnd, -3, 3), x.Im+between(rnd, -3, 3)))
		}
		w, hold := randomWindow(rnd), between(rnd, 1, 5)
		wanted := joinedOf(a, b, w, hold)
		counts[wanted >= 0]++
		n, e := grid.Joined(a, b, w, hold)
		if wanted < 0 {
			expect.Result(t, "Joined", n, e, 0, api.ErrNone)
		} else {
			expect.Result(t, "Joined", n, e, wanted, api.OK)
		}
	}
	if counts[true] < 500 || counts[false] < 500 {
		t.Errorf("the counts are %v", counts)
	}
}

// TestSlipBetweenDirections checks the changes between all directions, on the axes and beside them.
func TestSlipBetweenDirections(t *testing.T) {
	quadrants := []struct {
		q int
		l []api.Gauss
	}{
		{0, phasors(5, 0, 5, 1, 1, 5, 1<<20, 0)}, {1, phasors(0, 5, -1, 5, -5, 1, 0, 1<<20)}, {2, phasors(-5, 0, -5, -1, -1, -5, -1<<20, 0)}, {3, phasors(0, -5, 1, -5, 5, -1, 0, -1<<20)},
	}
	changes := map[int]int{0: 0, 1: 1, -3: 1, -1: -1, 3: -1}
	for _, a := range quadrants {
		for _, b := range quadrants {
			for _, x := range a.l {
				for _, y := range b.l {
					n, e := grid.Slip(phasors(1, 0, 1, 0), []api.Gauss{x, y})
					wanted, known := changes[b.q-a.q]
					if known != (e == api.OK) || n != wanted || !known && e != api.ErrConflict {
						t.Errorf("Slip from %v to %v: %d, error %d, want %d", x, y, n, e, wanted)
					}
				}
			}
		}
	}
}

func TestSlip(t *testing.T) {
	quarters := phasors(10, 0, 0, 10, -10, 0, 0, -10, 10, 0)
	back := slices.Clone(quarters)
	slices.Reverse(back)
	for _, x := range []struct {
		grids, generators []api.Gauss
		n                 int
		e                 api.Errno
	}{
		{still(5), quarters, 4, api.OK}, {still(5), back, -4, api.OK}, {quarters, still(5), -4, api.OK}, {quarters, quarters, 0, api.OK}, {quarters, back, 0, api.ErrConflict}, {still(2), phasors(10, 0, -10, 0), 0, api.ErrConflict}, {nil, nil, 0, api.OK}, {still(1), quarters[:1], 0, api.OK}, {still(1), quarters[1:2], 0, api.OK}, {still(4), quarters[:4], 3, api.OK}, {still(4), quarters[1:], 3, api.OK}, {still(2), quarters[3:], 1, api.OK}, {still(2), back[:2], -1, api.OK},
		{still(4), phasors(10, 0, 0, -10, 10, 0, 10, 1), 0, api.OK}, {still(4), phasors(10, -1, 10, 0, 10, -1, 10, 0), 1, api.OK}, {still(3), phasors(10, 0, -10, 0, 10, 0), 0, api.ErrConflict}, {still(4), phasors(10, 0, 0, 10, -10, 0, 10, 0), 0, api.ErrConflict}, {slices.Repeat(phasors(3, 4), 3), phasors(3, 4, -4, 3, -3, -4), 2, api.OK}, {slices.Repeat(phasors(3, 4), 2), phasors(3, 4, 3, 3), -1, api.OK}, {slices.Repeat(phasors(3, 4), 2), phasors(3, 4, 2, 4), 0, api.OK},
		{still(256), slices.Repeat(quarters[:4], 64), 255, api.OK}, {still(256), slices.Repeat(back[:4], 64), -255, api.OK}, {phasors(1<<20, 1<<20, -1<<20, 1<<20), phasors(1<<20, -1<<20, 1<<20, -1<<20), -1, api.OK}, {phasors(1<<20, 1<<20, -1<<20, 1<<20), phasors(1<<20, -1<<20, -1<<20, -1<<20), 2, api.ErrConflict},
	} {
		if x.e != api.OK {
			x.n = 0
		}
		n, e := grid.Slip(x.grids, x.generators)
		expect.Result(t, "Slip", n, e, x.n, x.e)
	}
}

func TestSlipOfRandomPhasors(t *testing.T) {
	rnd := rand.New(rand.NewSource(4))
	counts := map[bool]int{}
	for range 10000 {
		var a, b []api.Gauss
		for i := range rnd.Intn(30) {
			a, b = append(a, randomPhasor(rnd, 5)), append(b, randomPhasor(rnd, 5))
			if i > 0 && rnd.Intn(20) > 0 { // turned by at most a quarter
				a[i], b[i] = a[i-1], times(b[i-1], pick(rnd, phasors(1, 0, 0, 1, 0, -1)...))
			}
		}
		wanted, known := slipOf(a, b)
		counts[known]++
		n, e := grid.Slip(a, b)
		if known {
			expect.Result(t, "Slip", n, e, wanted, api.OK)
		} else {
			expect.Result(t, "Slip", n, e, 0, api.ErrConflict)
		}
	}
	if counts[true] < 1000 || counts[false] < 1000 {
		t.Errorf("the counts are %v", counts)
	}
}
