package light_test

import (
	"math"
	"math/rand"
	"slices"
	"testing"

	"spillage/api"
	"spillage/expect"
	"spillage/light"
)

// wantMap reports a map or an error that is not the expected one.
func wantMap(t *testing.T, what string, got light.Map, e api.Errno, wanted light.Map) {
	t.Helper()
	expect.Err(t, what, e, api.OK)
	if !sameMap(got, wanted) {
		t.Errorf("%s: got %v, want %v", what, got, wanted)
	}
}

// wantNoMap reports a map beside an error, and another error than the expected one.
func wantNoMap(t *testing.T, what string, got light.Map, e, wanted api.Errno) {
	t.Helper()
	expect.Err(t, what, e, wanted)
	if !sameMap(got, light.Map{}) {
		t.Errorf("%s: got %v beside an error", what, got)
	}
}

// sameMap compares maps; nil and empty samples, and 0 and -0, are the same.
func sameMap(a, b light.Map) bool {
	return a.Width == b.Width && a.Height == b.Height && slices.Equal(a.Samples, b.Samples)
}

// right returns the map of a call that has no error.
func right(t *testing.T) func(light.Map, api.Errno) light.Map {
	return func(m light.Map, e api.Errno) light.Map {
		t.Helper()
		expect.Err(t, "a right call", e, api.OK)
		return m
	}
}

// total returns the light of a map that has no error.
func total(t *testing.T, m light.Map) int {
	t.Helper()
	n, e := light.Total(m)
	expect.Err(t, "Total", e, api.OK)
	return n
}

func table(width, height int, l ...float32) light.Map {
	return light.Map{Width: width, Height: height, Samples: l}
}

// whole returns a map of samples with some integers.
func whole(width, height int, l ...int) light.Map {
	m := light.Map{Width: width, Height: height}
	for _, n := range l {
		m.Samples = append(m.Samples, float32(n)/16)
	}
	return m
}

// flat returns a map whose samples are all the same.
func flat(width, height int, x float32) light.Map {
	return light.Map{Width: width, Height: height, Samples: slices.Repeat([]float32{x}, width*height)}
}

// six returns the map M of the chapter's examples.
func six() light.Map { return table(3, 2, 1, 2, 3, 4, 5, 6) }

func at(x, y int) api.Point { return api.Point{X: x, Y: y} }

func span(from, to int) api.Span { return api.Span{From: from, To: to} }

func nan() float32 { return float32(math.NaN()) }

func inf(sign int) float32 { return float32(math.Inf(sign)) }

func minusZero() float32 { return float32(math.Copysign(0, -1)) }

// wrongMap is a map with an error.
type wrongMap struct {
	m light.Map
	e api.Errno
}

func wrongMaps() []wrongMap {
	return []wrongMap{
		{light.Map{}, api.ErrRange},
		{table(0, 1), api.ErrRange},
		{table(1, 0), api.ErrRange},
		{table(-1, -1, 1), api.ErrRange},
		{flat(65, 1, 0), api.ErrRange},
		{flat(1, 65, 0), api.ErrRange},
		{table(math.MaxInt, math.MaxInt, 1), api.ErrRange},
		{table(math.MinInt, 1), api.ErrRange},
		{table(1<<32, 1<<32), api.ErrRange},
		{table(65, 1, nan()), api.ErrRange},
		{table(1, 1), api.ErrShape},
		{table(2, 2, 1, 2, 3), api.ErrShape},
		{table(2, 2, 1, 2, 3, 4, 5), api.ErrShape},
		{table(2, 1, nan()), api.ErrShape},
		{table(1, 1, nan()), api.ErrForm},
		{table(1, 1, inf(1)), api.ErrForm},
		{table(1, 1, inf(-1)), api.ErrForm},
		{table(2, 1, nan(), 2000), api.ErrForm},
		{table(2, 1, 2000, nan()), api.ErrRange},
		{table(1, 1, 0.03125), api.ErrRange},
		{table(3, 1, 1, 2, -1024.0625), api.ErrRange},
	}
}

// random returns a map of a width and a height with integers from -reach to reach.
func random(r *rand.Rand, width, height, reach int) light.Map {
	m := light.Map{Width: width, Height: height}
	for range width * height {
		m.Samples = append(m.Samples, float32(r.Intn(2*reach+1)-reach)/16)
	}
	return m
}

// randoms calls a function with some random maps of several sizes.
func randoms(reach int, use func(r *rand.Rand, m light.Map)) {
	r := rand.New(rand.NewSource(1))
	for _, side := range []int{1, 2, 3, 5, 8, 64} {
		for range 6 {
			use(r, random(r, 1+r.Intn(side), 1+r.Intn(side), reach))
		}
		use(r, random(r, side, side, reach))
	}
}

// integerAt returns the integer of the sample in a column and a row; outside
// of the map it is 0.
func integerAt(m light.Map, x, y int) int {
	if x < 0 || y < 0 || x >= m.Width || y >= m.Height {
		return 0
	}
	return int(m.Samples[y*m.Width+x] * 16)
}

// drawn returns the map whose integers a function tells.
func drawn(width, height int, cell func(x, y int) int) light.Map {
	var l []int
	for y := range height {
		for x := range width {
			l = append(l, cell(x, y))
		}
	}
	return whole(width, height, l...)
}
