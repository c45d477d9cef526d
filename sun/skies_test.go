package sun_test

import (
	"math"
	"math/rand"
	"strings"
	"testing"

	"spillage/api"
	"spillage/expect"
	"spillage/sun"
)

// P2.3

// turning is a sky whose sun is half way twice opposite to itself.
func turning() sun.Sky {
	return sky(told(5, 0, 0, 2), told(7, 0, 0, -2), told(9, 0, 0, 2))
}

func TestCheckSky(t *testing.T) {
	for _, s := range []sun.Sky{
		day(), turning(), many(2, 200), many(64, 1), many(64, 200), {Name: strings.Repeat("a", 24), Suns: day().Suns},
		sky(told(9999800, 3, 0, 0), told(10000000, 0, 0, -3)), sky(told(0, 4096, 4096, 4096), told(1, -4096, 4096, -4096)), sky(told(7, 0, 0, 5), told(8, 0, 3, 4), told(9, -4, 0, 3)),
		sky(told(0, 1, 1, 1), told(200, 1, 1, -1), told(400, 1, 1, 1)), sky(told(0, 4, 4, 1), told(3, 5, 2, 2)),
	} {
		expect.Err(t, "CheckSky", sun.CheckSky(s), api.OK)
	}
	for _, x := range wrongSkies() {
		if e := sun.CheckSky(x.x); e != x.e {
			t.Errorf("CheckSky %.200v: error %d, want %d", x.x, e, x.e)
		}
	}
}

func TestAtAndRisen(t *testing.T) {
	for _, x := range []struct {
		s     sun.Sky
		tick  int
		v     api.Vector
		risen bool
	}{
		{day(), 0, vec(1, 0, 0), false}, {day(), 1, vec(29, 1, 2), true}, {day(), 5, vec(5, 1, 2), true}, {day(), 9, vec(7, 3, 6), true}, {day(), 10, vec(2, 1, 2), true}, {day(), 15, vec(1, 3, 4), true},
		{day(), 20, vec(-1, 2, 2), true}, {turning(), 5, vec(0, 0, 1), true}, {turning(), 7, vec(0, 0, -1), false}, {turning(), 9, vec(0, 0, 1), true},
		{sky(told(3, 0, 0, 6), told(4, 0, 6, 0)), 3, vec(0, 0, 1), true}, {sky(told(3, 0, 0, 6), told(4, 0, 6, 0)), 4, vec(0, 1, 0), false},
		{sky(told(0, 0, 0, 6), told(3, 2, 4, -4)), 1, vec(1, 2, 4), true}, {sky(told(0, 0, 0, 6), told(3, 2, 4, -4)), 2, vec(2, 4, -1), false}, // the told direction is not reduced before
		{sky(told(0, 4096, 0, 0), told(200, 0, 0, 4096)), 77, vec(123, 0, 77), true}, {sky(told(0, 4096, 1, 0), told(200, 0, 1, -4096)), 199, vec(512, 25, -101888), false},
		{sky(told(0, 1, 0, 0), told(2, -1, 0, 0)), 0, vec(1, 0, 0), false}, {sky(told(0, 0, 0, -1), told(3, 0, 0, 1)), 2, vec(0, 0, 1), true}, {sky(told(0, 0, 0, -1), told(3, 0, 0, 1)), 1, vec(0, 0, -1), false},
		{many(64, 200), 12600, vec(1, 0, 0), false}, {many(64, 200), 200, vec(1, 0, 0), false}, {many(64, 200), 12500, vec(1, 1, 0), false},
	} {
		v, e := sun.At(x.s, x.tick)
		expect.Result(t, "At", v, e, x.v, api.OK)
		is, e := sun.Risen(x.s, x.tick)
		expect.Result(t, "Risen", is, e, x.risen, api.OK)
	}
}

func TestAtAndRisenWithErrors(t *testing.T) {
	check := func(what string, s sun.Sky, tick int, wanted api.Errno) {
		t.Helper()
		v, e := sun.At(s, tick)
		expect.Result(t, "At "+what, v, e, api.Vector{}, wanted)
		is, e := sun.Risen(s, tick)
		expect.Result(t, "Risen "+what, is, e, false, wanted)
	}
	for _, x := range wrongSkies() {
		check("of a wrong sky", x.x, 5, x.e)
		check("of a wrong sky, before it", x.x, math.MinInt, x.e)
	}
	for _, tick := range []int{-1, 21, math.MinInt, math.MaxInt} {
		check("outside", day(), tick, api.ErrSpan)
	}
	for _, tick := range []int{0, 4, 10} {
		check("outside", turning(), tick, api.ErrSpan)
	}
	check("of no sun", turning(), 6, api.ErrNone)
	check("of no sun", turning(), 8, api.ErrNone)
	check("of no sun", sky(told(0, 3, -1, 2), told(200, -3, 1, -2)), 100, api.ErrNone)
}

// TestAtOfEachTick compares At with the sum of the two told suns around each tick.
func TestAtOfEachTick(t *testing.T) {
	r := rand.New(rand.NewSource(9))
	for range 40 {
		s := randomSky(r, 4)
		for i, x := range s.Suns[1:] {
			y := s.Suns[i]
			for tick := y.Tick; tick <= x.Tick; tick++ {
				sum := way(y.Direction, x.Direction, x.Tick-tick, tick-y.Tick)
				v, e := sun.At(s, tick)
				if sum == (api.Vector{}) {
					expect.Result(t, "At of no sun", v, e, api.Vector{}, api.ErrNone)
					continue
				}
				expect.Result(t, "At", v, e, divided(sum), api.OK)
			}
		}
	}
}

// randomSky returns a sky whose directions are all signs and orders of one.
func randomSky(r *rand.Rand, reach int) sun.Sky {
	s := sun.Sky{Name: "r"}
	v := random(r, reach)
	tick := r.Intn(3)
	for range 2 + r.Intn(8) {
		l := []int{v.X, v.Y, v.Z}
		r.Shuffle(3, func(i, j int) { l[i], l[j] = l[j], l[i] })
		for i := range l {
			l[i] *= 1 - 2*r.Intn(2)
		}
		s.Suns = append(s.Suns, told(tick, l[0], l[1], l[2]))
		tick += 1 + r.Intn(12)
	}
	return s
}

func TestDaylight(t *testing.T) {
	for _, x := range []struct {
		s sun.Sky
		l []api.Span
	}{
		{day(), []api.Span{span(1, 21)}}, {turning(), []api.Span{span(5, 6), span(9, 10)}}, {sky(told(3, 1, 0, 0), told(9, 0, 1, 0)), nil}, {sky(told(3, 0, 0, -1), told(9, 1, 0, 0)), nil},
		{sky(told(0, 0, 0, 1), told(200, 0, 0, 1)), []api.Span{span(0, 201)}}, {sky(told(7, 0, 0, 1), told(8, 0, 0, -1), told(9, 0, 0, 1)), []api.Span{span(7, 8), span(9, 10)}},
		{sky(told(4, 0, 1, 0), told(8, 0, 0, 1), told(12, 1, 0, 0), told(16, 0, 0, 1)), []api.Span{span(5, 12), span(13, 17)}},
		{sky(told(4, 0, 0, 1), told(8, 0, 0, -1)), []api.Span{span(4, 6)}}, {sky(told(10000000-1, 0, 0, -1), told(10000000, 0, 0, 1)), []api.Span{span(10000000, 10000001)}},
	} {
		l, e := sun.Daylight(x.s)
		expect.List(t, "Daylight", l, e, x.l, api.OK)
	}
	for _, x := range wrongSkies() {
		l, e := sun.Daylight(x.x)
		expect.List(t, "Daylight of a wrong sky", l, e, nil, x.e)
	}
}

func TestDaylightIsWhenTheSunHasRisen(t *testing.T) {
	r := rand.New(rand.NewSource(10))
	for range 200 {
		s := randomSky(r, 3)
		l, e := sun.Daylight(s)
		expect.Err(t, "Daylight", e, api.OK)
		in := map[int]bool{}
		for i, x := range l {
			if x.From >= x.To || i > 0 && l[i-1].To >= x.From {
				t.Fatalf("the spans %v are not ascending, or touch", l)
			}
			for tick := x.From; tick < x.To; tick++ {
				in[tick] = true
			}
		}
		for tick := range 100 {
			if is, _ := sun.Risen(s, tick); is != in[tick] {
				t.Fatalf("Daylight of %v: %v, at %d it is %v", s, l, tick, is)
			}
		}
	}
}

func TestHighest(t *testing.T) {
	for _, x := range []struct {
		s sun.Sky
		n int
	}{
		{day(), 1}, {turning(), 0}, {sky(told(0, 1, 0, 0), told(1, 0, 1, 0), told(2, 0, 0, 1)), 2}, {sky(told(0, 0, 0, -1), told(1, 0, 1, 0), told(2, 1, 0, 0)), 1},
		{sky(told(0, 0, 0, -1), told(1, 0, 0, -1)), 0}, {many(64, 3), 0}, {sky(told(0, 2, 0, -1), told(1, 1, 0, -2)), 0}, {sky(told(0, 1, 0, -2), told(1, 2, 0, -1)), 1},
		{sky(told(0, 6, 0, 0), told(1, 4, 2, 4), told(2, 2, 4, 4)), 1},
	} {
		n, e := sun.Highest(x.s)
		expect.Result(t, "Highest", n, e, x.n, api.OK)
	}
	for _, x := range wrongSkies() {
		n, e := sun.Highest(x.x)
		expect.Result(t, "Highest of a wrong sky", n, e, 0, x.e)
	}
}
