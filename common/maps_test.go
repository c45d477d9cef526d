package common_test

import (
	"math"
	"slices"
	"testing"

	"spillage/api"
	"spillage/common"
)

func TestSamples(t *testing.T) {
	for _, x := range []struct {
		sample  float32
		integer int
	}{{0, 0}, {1, 16}, {-1, -16}, {0.0625, 1}, {-0.0625, -1}, {1024, 16384}, {-1024, -16384}, {1023.9375, 16383}, {1.5, 24}} {
		if n := common.IntegerOf(x.sample); n != x.integer {
			t.Errorf("IntegerOf %v: %d, want %d", x.sample, n, x.integer)
		}
		if f := common.SampleOf(x.integer); f != x.sample {
			t.Errorf("SampleOf %d: %v, want %v", x.integer, f, x.sample)
		}
	}
}

func TestPlaces(t *testing.T) {
	if l := slices.Collect(common.Places(2, 3)); !slices.Equal(l, []api.Point{{}, {X: 1}, {Y: 1}, {X: 1, Y: 1}, {Y: 2}, {X: 1, Y: 2}}) {
		t.Errorf("Places: %v", l)
	}
	for _, size := range [][2]int{{0, 3}, {3, 0}, {-1, 2}} {
		if l := slices.Collect(common.Places(size[0], size[1])); len(l) != 0 {
			t.Errorf("Places of %v: %v", size, l)
		}
	}
	var seen []api.Point
	for p := range common.Places(3, 3) {
		seen = append(seen, p)
		if p.X == 1 {
			break
		}
	}
	if !slices.Equal(seen, []api.Point{{}, {X: 1}}) {
		t.Errorf("Places that are left early: %v", seen)
	}
}

func TestIsPlace(t *testing.T) {
	for _, x := range []struct {
		p  api.Point
		is bool
	}{{api.Point{}, true}, {api.Point{X: 3, Y: 1}, true}, {api.Point{X: 4, Y: 1}, false}, {api.Point{X: 3, Y: 2}, false}, {api.Point{X: 1, Y: 3}, false}, {api.Point{X: -1}, false}, {api.Point{Y: -1}, false}, {api.Point{X: math.MinInt, Y: math.MaxInt}, false}} {
		if is := common.IsPlace(x.p, 4, 2); is != x.is {
			t.Errorf("IsPlace %v: %v", x.p, is)
		}
	}
}

func TestPlacesIn(t *testing.T) {
	at := func(low, high int) api.Interval { return api.Interval{Low: low, High: high} }
	if l := slices.Collect(common.PlacesIn(at(-1, 1), at(4, 5))); !slices.Equal(l, []api.Point{{X: -1, Y: 4}, {X: 0, Y: 4}, {X: 1, Y: 4}, {X: -1, Y: 5}, {X: 0, Y: 5}, {X: 1, Y: 5}}) {
		t.Errorf("PlacesIn: %v", l)
	}
	for _, l := range [][]api.Point{slices.Collect(common.PlacesIn(at(1, 0), at(4, 5))), slices.Collect(common.PlacesIn(at(4, 5), at(3, -3)))} {
		if len(l) != 0 {
			t.Errorf("PlacesIn of no integers: %v", l)
		}
	}
	for p := range common.PlacesIn(at(-3, 3), at(-2, 2)) {
		if p != (api.Point{X: -3, Y: -2}) {
			t.Errorf("PlacesIn goes on with %v", p)
		}
		break
	}
}
