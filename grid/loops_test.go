package grid_test

import (
	"math/rand"
	"slices"
	"testing"

	"spillage/api"
	"spillage/expect"
	"spillage/grid"
)

// P9.1

func TestEnergies(t *testing.T) {
	for _, x := range []struct {
		l        []float32
		energies [3]int
	}{
		{[]float32{1, -1, 1, -1}, [3]int{0, 0, 4096}}, {[]float32{1, 1, 1, 1, 1, 1, -1, -1}, [3]int{4096, 2048, 0}}, {nil, [3]int{}}, {make([]float32, 4096), [3]int{}}, {samples(1, 2, 3, 4), [3]int{100, 8, 4}}, {samples(1, 0, 0, 0), [3]int{1, 1, 1}}, {samples(0, 0, 0, -1), [3]int{1, 1, 1}}, {samples(0, 0, 0, 0, 1, 2, 3, 4, 0, 0, 0, 0, 1, 2, 3, 4), [3]int{200, 16, 8}}, {[]float32{minusZero(), minusZero(), minusZero(), minusZero(), 1, -1, 1, -1}, [3]int{0, 0, 4096}}, {samples(3, 5, -3, -5), [3]int{0, 136, 0}}, {samples(1, 0, -1, 0, 0, 1, 0, -1), [3]int{0, 8, 0}},
		{slices.Repeat([]float32{1024}, 4096), [3]int{1 << 42, 0, 0}}, {slices.Repeat([]float32{1024, -1024}, 2048), [3]int{0, 0, 1 << 42}}, {slices.Repeat([]float32{1024, 1024, -1024, -1024}, 1024), [3]int{0, 1 << 41, 0}}, {slices.Repeat([]float32{-1024, -1024, -1024, -1024}, 1), [3]int{1 << 32, 0, 0}},
	} {
		got, e := grid.Energies(x.l)
		expect.Result(t, "Energies", got, e, x.energies, api.OK)
	}
}

func TestEnergiesOfRandomVibrations(t *testing.T) {
	rnd := rand.New(rand.NewSource(5))
	for range 1000 {
		reach := pick(rnd, 2, 100, 16384)
		l := list(rnd, 4*rnd.Intn(20), -reach, reach)
		got, e := grid.Energies(samples(l...))
		expect.Result(t, "Energies", got, e, energiesOf(l), api.OK)
	}
}

func TestMode(t *testing.T) {
	for _, x := range []struct {
		l    []float32
		name string
	}{
		{[]float32{1, -1, 1, -1}, "shake"}, {[]float32{1, 1, 1, 1}, "sway"}, {[]float32{1, 1, -1, -1}, "twist"}, {[]float32{0, 0, 0, 0}, "sway"}, {samples(1, 0, 0, 0), "sway"}, {samples(2, 1, -2, -1), "twist"},
		// the energies 0, 2, 4; of several the first one, as of 4, 0, 4, then 0, 8, 8, and 8, 0, 8
		{samples(1, -1, 0, 0), "shake"}, {samples(1, 0, 1, 0), "sway"}, {samples(1, -1, 0, 0, 1, 0, -1, 0, 1, -1, 0, 0), "twist"}, {samples(0, 1, 0, 1, 1, 0, 1, 0), "sway"},
	} {
		name, e := grid.Mode(x.l, sways())
		expect.Result(t, "Mode", name, e, x.name, api.OK)
	}
	name, e := grid.Mode(samples(1, -1, 1, -1), [3]string{"a", "a", "a"})
	expect.Result(t, "Mode of the same names", name, e, "a", api.OK)
	name, e = grid.Mode(slices.Repeat(samples(1, -1), 2048), [3]string{"a", "b", "abcdefghijklmnopqrstuv_9"})
	expect.Result(t, "Mode of a long name", name, e, "abcdefghijklmnopqrstuv_9", api.OK)
}

func TestModesOfRandomVibrations(t *testing.T) {
	rnd := rand.New(rand.NewSource(6))
	counts := map[string]int{}
	for range 5000 {
		l := list(rnd, 4*between(rnd, 1, 3), -2, 2)
		energies := energiesOf(l)
		wanted := 0
		for k, n := range energies {
			if n > energies[wanted] {
				wanted = k
			}
		}
		name, e := grid.Mode(samples(l...), sways())
		expect.Result(t, "Mode", name, e, sways()[wanted], api.OK)
		counts[name]++
	}
	for _, name := range sways() {
		if counts[name] < 500 {
			t.Errorf("the counts are %v", counts)
		}
	}
}

func TestMargin(t *testing.T) {
	for _, x := range []struct {
		l     []complex128
		n, at int
	}{
		{around(), 256, 2}, {[]complex128{-1}, 0, 0}, {[]complex128{1, -1, -1}, 0, 1}, {[]complex128{0}, 256, 0}, {[]complex128{-1 + 1i, 0, -2, -1 - 1i}, 256, 0}, {[]complex128{5, -1 - 1i, 0}, 256, 1}, {[]complex128{-1.0625, -0.9375}, 1, 0}, {[]complex128{-1 + 0.0625i, -0.9375 + 0.0625i}, 1, 0}, {[]complex128{-0.9375 - 0.0625i, -1 - 0.0625i}, 1, 1}, {[]complex128{256 + 256i}, 4112*4112 + 4096*4096, 0}, {[]complex128{256 - 256i, -256 - 256i}, 4080*4080 + 4096*4096, 1}, {slices.Repeat([]complex128{3}, 64), 4096, 0}, {append(slices.Repeat([]complex128{3}, 63), -2.5), 576, 63},
	} {
		n, at, e := grid.Margin(x.l)
		expect.Result(t, "Margin", [2]int{n, at}, e, [2]int{x.n, x.at}, api.OK)
	}
}

// randomResponses returns responses whose integers are up to a reach from -1.
func randomResponses(r *rand.Rand, n, reach int) []complex128 {
	var l []complex128
	for range n {
		l = append(l, complex(float64(between(r, -reach, reach))/16-1, float64(between(r, -reach, reach))/16))
	}
	return l
}

func TestMarginsOfRandomResponses(t *testing.T) {
	rnd := rand.New(rand.NewSource(7))
	for range 3000 {
		l := randomResponses(rnd, between(rnd, 1, 64), pick(rnd, 3, 30, 4080))
		least, at := 1<<60, -1
		for i, x := range l {
			if n := int(256 * ((real(x)+1)*(real(x)+1) + imag(x)*imag(x))); n < least {
				least, at = n, i
			}
		}
		n, i, e := grid.Margin(l)
		expect.Result(t, "Margin", [2]int{n, i}, e, [2]int{least, at}, api.OK)
	}
}

func TestWinding(t *testing.T) {
	back := around()
	slices.Reverse(back)
	for _, x := range []struct {
		l []complex128
		n int
		e api.Errno
	}{
		{around(), 1, api.OK}, {back, -1, api.OK}, {[]complex128{1, 1i, -1i}, 0, api.OK}, {[]complex128{-2, -1i, 1, 1i}, 1, api.OK}, {slices.Repeat(around(), 2), 2, api.OK}, {slices.Repeat(around(), 16), 16, api.OK}, {slices.Repeat(back, 16), -16, api.OK}, {slices.Concat(around(), back), 0, api.OK}, {[]complex128{0}, 0, api.OK}, {[]complex128{0, 0, 0}, 0, api.OK}, {[]complex128{0, 1}, 0, api.OK}, {[]complex128{-3, -2}, 0, api.OK}, {[]complex128{1i, -2 + 1i}, 0, api.OK}, {[]complex128{256 + 256i, -256 + 256i, -256 - 256i, 256 - 256i}, 1, api.OK},
		// lines that end on the ray, touch it, or run along it
		{[]complex128{0, -1 + 1i, -2, -1 - 1i}, 1, api.OK}, {[]complex128{0 - 1i, 0, -1 - 1i}, 0, api.OK}, {[]complex128{0 + 1i, 0, -1 + 1i}, 0, api.OK}, {[]complex128{0 - 1i, 0, 1, 1 + 1i, -2 + 1i, -2 - 1i}, 1, api.OK}, {[]complex128{0 - 1i, 1, 0, 1i, -2 + 1i, -2 - 1i}, 1, api.OK}, {[]complex128{1i, 0, 1, 1 + 1i}, 0, api.OK}, {[]complex128{-2 - 1i, -3, -2 + 1i, -4}, 0, api.OK}, {[]complex128{-0.9375 - 0.0625i, -0.9375 + 0.0625i, -2}, 1, api.OK}, {[]complex128{-1.0625 - 0.0625i, -1.0625 + 0.0625i, -2}, 0, api.OK}, {[]complex128{1 + 1i, -1.0625, -1 - 1i}, 1, api.OK},
		{[]complex128{0, -2}, 0, api.ErrConflict}, {[]complex128{-1}, 0, api.ErrConflict}, {[]complex128{0, -1}, 0, api.ErrConflict}, {[]complex128{-1, -2}, 0, api.ErrConflict}, {[]complex128{-1 + 1i, -1 - 1i}, 0, api.ErrConflict}, {[]complex128{1i, -2 - 1i}, 0, api.ErrConflict}, {[]complex128{1, 1i, -1, -1i}, 0, api.ErrConflict}, {[]complex128{0, 1i, 2i, -2}, 0, api.ErrConflict}, {[]complex128{-256 - 256i, 254 + 256i, 5}, 0, api.ErrConflict}, {[]complex128{-256 - 256i, 253 + 256i, 5}, -1, api.OK}, {[]complex128{-256 - 256i, 255 + 256i, 5}, 0, api.OK}, {[]complex128{-255 - 254i, 253 + 254i, 5}, 0, api.ErrConflict}, {append(around(), -1), 0, api.ErrConflict}, {[]complex128{-1 + 1i, -1 + 2i}, 0, api.OK}, {[]complex128{-1 - 1i, -1 - 2i, -2 - 2i}, 0, api.OK},
	} {
		n, e := grid.Winding(x.l)
		if n != x.n || e != x.e {
			t.Errorf("Winding %v: %d, error %d, want %d, error %d", x.l, n, e, x.n, x.e)
		}
	}
}

func TestWindingsOfRandomResponses(t *testing.T) {
	rnd := rand.New(rand.NewSource(8))
	counts := map[string]int{}
	for range 20000 {
		l := randomResponses(rnd, between(rnd, 1, pick(rnd, 4, 10, 40)), pick(rnd, 1, 2, 5, 30, 4080))
		wanted, known := turnsOf(l)
		n, e := grid.Winding(l)
		if known && (n != wanted || e != api.OK) || !known && (n != 0 || e != api.ErrConflict) {
			t.Fatalf("Winding %v: %d, error %d, want %d, %v", l, n, e, wanted, known)
		}
		switch {
		case !known:
			counts["conflict"]++
		case n == 0:
			counts["none"]++
		case n > 0:
			counts["left"]++
		default:
			counts["right"]++
		}
	}
	for _, what := range []string{"conflict", "none", "left", "right"} {
		if counts[what] < 1000 {
			t.Errorf("the counts are %v", counts)
		}
	}
}
