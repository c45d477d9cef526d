package common_test

import (
	"math"
	"slices"
	"testing"

	"spillage/api"
	"spillage/common"
)

func TestSamples(t *testing.T) {
	for _, x := range []struct {
		sample  float32
		integer int
	}{{0, 0}, {1, 16}, {-1, -16}, {0.0625, 1}, {-0.0625, -1}, {1024, 16384}, {-1024, -16384}, {1023.9375, 16383}, {1.5, 24}} {
		if n := common.IntegerOf(x.sample); n != x.integer {
			t.Errorf("IntegerOf %v: %d, want %d", x.sample, n, x.integer)
		}
		if f := common.SampleOf(x.integer); f != x.sample {
			t.Errorf("SampleOf %d: %v, want %v", x.integer, f, x.sample)
		}
	}
}

func TestIntegerOfAPart(t *testing.T) {
	for _, x := range []struct {
		part    float64
		integer int
	}{{0, 0}, {-256, -4096}, {0.0625, 1}, {4096.9375, 65551}, {1 << 40, 1 << 44}} {
		if n := common.IntegerOf(x.part); n != x.integer {
			t.Errorf("IntegerOf %v: %d, want %d", x.part, n, x.integer)
		}
	}
}

func TestIsFinite(t *testing.T) {
	for _, x := range []float64{0, math.Copysign(0, -1), 1, -1, math.MaxFloat64, -math.MaxFloat64, math.SmallestNonzeroFloat64} {
		if !common.IsFinite(x) {
			t.Errorf("%v is not finite", x)
		}
	}
	for _, x := range []float64{math.NaN(), math.Inf(1), math.Inf(-1)} {
		if common.IsFinite(x) || common.IsFinite(float32(x)) {
			t.Errorf("%v is finite", x)
		}
	}
}

func TestIsMultiple(t *testing.T) {
	for _, x := range []struct {
		x  float64
		is bool
	}{{0, true}, {math.Copysign(0, -1), true}, {0.0625, true}, {-2.9375, true}, {3, true}, {-3, true}, {3.0625, false}, {-3.0625, false}, {0.03125, false}, {-1.0001, false}, {1e-300, false}, {math.SmallestNonzeroFloat64, false}, {math.MaxFloat64, false}, {-math.MaxFloat64, false}, {1e30, false}} {
		if is := common.IsMultiple(x.x, 3); is != x.is {
			t.Errorf("IsMultiple %v: %v", x.x, is)
		}
	}
	if !common.IsMultiple(float32(-1.5), 3) || common.IsMultiple(float32(1.0/3), 3) {
		t.Error("IsMultiple of float32 is wrong")
	}
}

func TestCheckNumber(t *testing.T) {
	nan, inf := math.NaN(), math.Inf(1)
	for _, x := range []struct {
		x complex128
		e api.Errno
	}{
		{0, api.OK}, {3 - 3i, api.OK}, {-0.0625 + 2.9375i, api.OK}, {complex(nan, 0), api.ErrForm}, {complex(0, nan), api.ErrForm}, {complex(inf, 0), api.ErrForm}, {complex(0, -inf), api.ErrForm}, {complex(4, nan), api.ErrForm}, {complex(-inf, 4), api.ErrForm}, {3.0625, api.ErrRange}, {-3.0625, api.ErrRange}, {3.0625i, api.ErrRange}, {-3.0625i, api.ErrRange}, {0.03125 + 1i, api.ErrRange}, {1 + 0.03125i, api.ErrRange},
	} {
		if e := common.CheckNumber(x.x, 3); e != x.e {
			t.Errorf("CheckNumber %v: error %d, want %d", x.x, e, x.e)
		}
	}
}

func TestPlaces(t *testing.T) {
	if l := slices.Collect(common.Places(2, 3)); !slices.Equal(l, []api.Point{{}, {X: 1}, {Y: 1}, {X: 1, Y: 1}, {Y: 2}, {X: 1, Y: 2}}) {
		t.Errorf("Places: %v", l)
	}
	for _, size := range [][2]int{{0, 3}, {3, 0}, {-1, 2}} {
		if l := slices.Collect(common.Places(size[0], size[1])); len(l) != 0 {
			t.Errorf("Places of %v: %v", size, l)
		}
	}
	var seen []api.Point
	for p := range common.Places(3, 3) {
		seen = append(seen, p)
		if p.X == 1 {
			break
		}
	}
	if !slices.Equal(seen, []api.Point{{}, {X: 1}}) {
		t.Errorf("Places that are left early: %v", seen)
	}
}

func TestIsPlace(t *testing.T) {
	for _, x := range []struct {
		p  api.Point
		is bool
	}{{api.Point{}, true}, {api.Point{X: 3, Y: 1}, true}, {api.Point{X: 4, Y: 1}, false}, {api.Point{X: 3, Y: 2}, false}, {api.Point{X: 1, Y: 3}, false}, {api.Point{X: -1}, false}, {api.Point{Y: -1}, false}, {api.Point{X: math.MinInt, Y: math.MaxInt}, false}} {
		if is := common.IsPlace(x.p, 4, 2); is != x.is {
			t.Errorf("IsPlace %v: %v", x.p, is)
		}
	}
}

func TestPlacesIn(t *testing.T) {
	at := func(low, high int) api.Interval { return api.Interval{Low: low, High: high} }
	if l := slices.Collect(common.PlacesIn(at(-1, 1), at(4, 5))); !slices.Equal(l, []api.Point{{X: -1, Y: 4}, {X: 0, Y: 4}, {X: 1, Y: 4}, {X: -1, Y: 5}, {X: 0, Y: 5}, {X: 1, Y: 5}}) {
		t.Errorf("PlacesIn: %v", l)
	}
	for _, l := range [][]api.Point{slices.Collect(common.PlacesIn(at(1, 0), at(4, 5))), slices.Collect(common.PlacesIn(at(4, 5), at(3, -3)))} {
		if len(l) != 0 {
			t.Errorf("PlacesIn of no integers: %v", l)
		}
	}
	for p := range common.PlacesIn(at(-3, 3), at(-2, 2)) {
		if p != (api.Point{X: -3, Y: -2}) {
			t.Errorf("PlacesIn goes on with %v", p)
		}
		break
	}
}
