package common_test

import (
	"slices"
	"testing"

	"spillage/api"
	"spillage/common"
)

func TestSamples(t *testing.T) {
	for _, x := range []struct {
		sample  float32
		integer int
	}{{0, 0}, {1, 16}, {-1, -16}, {0.0625, 1}, {-0.0625, -1}, {1024, 16384}, {-1024, -16384}, {1023.9375, 16383}, {1.5, 24}} {
		if n := common.IntegerOf(x.sample); n != x.integer {
			t.Errorf("IntegerOf %v: %d, want %d", x.sample, n, x.integer)
		}
		if f := common.SampleOf(x.integer); f != x.sample {
			t.Errorf("SampleOf %d: %v, want %v", x.integer, f, x.sample)
		}
	}
}

func TestPlaces(t *testing.T) {
	if l := slices.Collect(common.Places(2, 3)); !slices.Equal(l, []api.Point{{}, {X: 1}, {Y: 1}, {X: 1, Y: 1}, {Y: 2}, {X: 1, Y: 2}}) {
		t.Errorf("Places: %v", l)
	}
	for _, size := range [][2]int{{0, 3}, {3, 0}, {-1, 2}} {
		if l := slices.Collect(common.Places(size[0], size[1])); len(l) != 0 {
			t.Errorf("Places of %v: %v", size, l)
		}
	}
	var seen []api.Point
	for p := range common.Places(3, 3) {
		seen = append(seen, p)
		if p.X == 1 {
			break
		}
	}
	if !slices.Equal(seen, []api.Point{{}, {X: 1}}) {
		t.Errorf("Places that are left early: %v", seen)
	}
}
