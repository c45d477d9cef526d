package cloud_test

import (
	"math/rand"
	"slices"
	"testing"

	"spillage/api"
	"spillage/cloud"
	"spillage/expect"
	"spillage/light"
)

// P7.6, and P8 of the whole document

func TestEachDarkCellIsInOneCloud(t *testing.T) {
	rnd := rand.New(rand.NewSource(17))
	for range 300 {
		m, limit := randomImage(rnd, between(rnd, 1, 24), between(rnd, 1, 24), 3), float32(between(rnd, 1, 3))/16
		clouds, e := cloud.Clouds(m, limit)
		expect.Err(t, "Clouds", e, api.OK)
		dark, e := cloud.Dark(m, limit)
		expect.Err(t, "Dark", e, api.OK)
		owners := map[api.Point]int{}
		cells := 0
		for i, c := range clouds {
			for _, p := range c {
				owners[p] = i
				cells++
			}
		}
		if cells != len(dark) || len(owners) != len(dark) {
			t.Fatalf("%v: %d dark cells are %d times in clouds", m, len(dark), cells)
		}
		for _, p := range dark {
			owner, is := owners[p]
			for _, q := range points(p.X+1, p.Y, p.X, p.Y+1) {
				if other, isToo := owners[q]; !is || isToo && other != owner {
					t.Fatalf("%v: the cell %v is in no cloud, or beside another one", m, p)
				}
			}
		}
	}
}

// shifted returns the image whose cells are moved by a shift, with new ones where none came.
func shifted(rnd *rand.Rand, m light.Map, shift api.Point) light.Map {
	out := randomImage(rnd, m.Width, m.Height, 16384)
	for _, p := range cellsOf(m) {
		if n := integerAt(m, at(p.X-shift.X, p.Y-shift.Y)); n >= 0 {
			out.Samples[p.Y*m.Width+p.X] = float32(n) / 16
		}
	}
	return out
}

func TestAnImageThatWasMovedIsMovedBack(t *testing.T) {
	rnd := rand.New(rand.NewSource(18))
	for range 150 {
		width, height := between(rnd, 8, 16), between(rnd, 8, 16)
		m := table(width, height, rnd.Perm(width*height)...) // cells that are all different
		sum, n, e := cloud.Difference(m, m, at(0, 0))
		expect.Result(t, "the difference of an image from itself", [2]int{sum, n}, e, [2]int{0, len(m.Samples)}, api.OK)
		shift := randomPoint(rnd, 4)
		other := shifted(rnd, m, shift)
		for range 2 {
			sum, _, e := cloud.Difference(m, other, shift)
			expect.Result(t, "the difference of an image that was moved", sum, e, 0, api.OK)
			best, cost, e := cloud.Shift(m, other, 4, 16)
			if best != shift || cost != ratio(0, 1) || e != api.OK {
				t.Fatalf("the best shift of %v and %v is %v with the cost %v, error %d, want %v", m, other, best, cost, e, shift)
			}
			blur := between(rnd, 0, 4)
			d, e := cloud.Seen(m, other, 4, 16, 10, blur)
			expect.Result(t, "Seen", d, e, drift(shift.X-blur, shift.X+blur, shift.Y-blur, shift.Y+blur), api.OK)
			m, other, shift = other, m, at(-shift.X, -shift.Y)
		}
	}
}

func TestNoPermittedShiftCostsLess(t *testing.T) {
	rnd := rand.New(rand.NewSource(19))
	for range 300 {
		width, height := between(rnd, 1, 12), between(rnd, 1, 12)
		a, b := randomImage(rnd, width, height, 4), randomImage(rnd, width, height, 4)
		most, least := rnd.Intn(9), between(rnd, 1, width*height)
		best, cost, e := cloud.Shift(a, b, most, least)
		expect.Err(t, "Shift", e, api.OK)
		second, f := cloud.Second(a, b, most, least)
		permitted := 0
		for range 200 {
			shift := randomPoint(rnd, most)
			sum, n, e := cloud.Difference(a, b, shift)
			if e != api.OK || n < least {
				continue
			}
			if permitted++; sum*cost.Den < cost.Num*n {
				t.Fatalf("%v and %v: the shift %v costs less than the best one %v", a, b, shift, best)
			}
			if shift != best && (f != api.OK || sum*second.Den < second.Num*n) {
				t.Fatalf("%v and %v: the shift %v costs less than the second one, error %d", a, b, shift, f)
			}
		}
		if sum, n, e := cloud.Difference(a, b, best); e != api.OK || n < least || sum*cost.Den != cost.Num*n {
			t.Fatalf("%v and %v: the best shift %v costs %d in %d cells, error %d, not %v", a, b, best, sum, n, e, cost)
		}
	}
}

// asked is an image with a limit, and what May or Must say of its cells, and of those beside it, after some ticks.
type asked struct {
	m     light.Map
	limit float32
	t     int
	cells []api.Point
}

func (x asked) may(t *testing.T, d cloud.Drift) []bool {
	t.Helper()
	l, e := cloud.May(x.m, x.limit, d, x.t, x.cells)
	expect.Err(t, "May", e, api.OK)
	return l
}

func (x asked) must(t *testing.T, d cloud.Drift) []bool {
	t.Helper()
	l, e := cloud.Must(x.m, x.limit, d, x.t, x.cells)
	expect.Err(t, "Must", e, api.OK)
	return l
}

// wantWithin checks that all of some cells are some of others.
func wantWithin(t *testing.T, what string, some, others []bool) {
	t.Helper()
	for i, is := range some {
		if is && !others[i] {
			t.Fatalf("%s: not so for the cell %d", what, i)
		}
	}
}

// widened returns a drift with more motions, or with the same ones.
func widened(r *rand.Rand, d cloud.Drift) cloud.Drift {
	return during(d.Ticks, to(d.X.Low-r.Intn(3), d.X.High+r.Intn(3)), to(d.Y.Low-r.Intn(3), d.Y.High+r.Intn(3)))
}

func TestWhatMustBeCoveredMayBe(t *testing.T) {
	rnd := rand.New(rand.NewSource(20))
	for range 400 {
		m, d := randomImage(rnd, between(rnd, 1, 10), between(rnd, 1, 10), 3), randomDrift(rnd, 3, 3)
		x := asked{m: m, limit: float32(between(rnd, 1, 2)) / 16, t: between(rnd, 0, 2*d.Ticks), cells: nearby(m, 3)}
		may, must := x.may(t, d), x.must(t, d)
		wantWithin(t, "a cell that must be covered may be", must, may)
		wide := widened(rnd, d)
		wantWithin(t, "a cell that may be covered may be for more motions", may, x.may(t, wide))
		wantWithin(t, "a cell that must be covered for more motions must be", x.must(t, wide), must)
		motions, e := cloud.Motions(d)
		expect.Err(t, "Motions", e, api.OK)
		for _, motion := range motions {
			covered, e := cloud.Covered(m, x.limit, motion, d.Ticks, x.t)
			expect.Err(t, "Covered", e, api.OK)
			var is []bool
			for _, cell := range x.cells {
				is = append(is, slices.Contains(covered, cell))
			}
			alone := during(d.Ticks, to(motion.X, motion.X), to(motion.Y, motion.Y))
			for _, l := range [][]bool{x.may(t, alone), x.must(t, alone)} {
				expect.List(t, "May, Must for one motion", l, api.OK, is, api.OK)
			}
			wantWithin(t, "a cell that is covered for a motion may be", is, may)
			wantWithin(t, "a cell that must be covered is for each motion", must, is)
		}
	}
}

func TestAWindowHoldsEachTickThatCovers(t *testing.T) {
	rnd := rand.New(rand.NewSource(21))
	covers := 0
	for range 200 {
		m, d, limit := randomImage(rnd, between(rnd, 1, 8), between(rnd, 1, 8), 3), randomDrift(rnd, 3, 3), float32(between(rnd, 1, 3))/16
		horizon := between(rnd, 1, 40)
		motions, e := cloud.Motions(d)
		expect.Err(t, "Motions", e, api.OK)
		motion, ahead := motions[rnd.Intn(len(motions))], rnd.Intn(horizon+1)
		covered, e := cloud.Covered(m, limit, motion, d.Ticks, ahead)
		expect.Err(t, "Covered", e, api.OK)
		for _, cell := range covered {
			w, e := cloud.Window(m, limit, d, cell, horizon)
			if e != api.OK || ahead < w.From || ahead >= w.To || w.From < 0 || w.To > horizon+1 {
				t.Fatalf("%v %v: the motion %v covers %v after %d ticks, but its window is %v, error %d", m, d, motion, cell, ahead, w, e)
			}
			ends := asked{m: m, limit: limit, cells: []api.Point{cell}}
			for _, ends.t = range []int{w.From, w.To - 1} {
				if !ends.may(t, d)[0] {
					t.Fatalf("%v %v: the window %v of %v is too long", m, d, w, cell)
				}
			}
			covers++
		}
	}
	if covers < 1000 {
		t.Errorf("only %d cells were covered", covers)
	}
}

// TestACloudThatMovesAsItWasSeen moves an image, looks at it, and follows each of its dark cells: they come within their windows.
func TestACloudThatMovesAsItWasSeen(t *testing.T) {
	rnd := rand.New(rand.NewSource(22))
	for range 30 {
		m, limit := randomImage(rnd, 9, 9, 16384), float32(512)
		shift, ticks, blur := randomPoint(rnd, 2), between(rnd, 1, 12), between(rnd, 0, 2)
		d, e := cloud.Seen(m, shifted(rnd, m, shift), 3, 20, ticks, blur)
		expect.Err(t, "Seen", e, api.OK)
		if d.X.Low > shift.X || d.X.High < shift.X || d.Y.Low > shift.Y || d.Y.High < shift.Y {
			t.Fatalf("%v: the drift %v does not have the shift %v", m, d, shift)
		}
		for _, ahead := range []int{0, ticks, 2 * ticks, between(rnd, 0, 30)} {
			by, e := cloud.Moved(shift, ticks, ahead)
			expect.Err(t, "Moved", e, api.OK)
			for _, p := range darkOf(m, limit) {
				w, e := cloud.Window(m, limit, d, at(p.X+by.X, p.Y+by.Y), 30)
				if e != api.OK || ahead < w.From || ahead >= w.To {
					t.Fatalf("%v %v: the cell %v comes after %d ticks, not within %v, error %d", m, d, p, ahead, w, e)
				}
			}
		}
	}
}

func TestCrossingDoesNotDependOnTheOrder(t *testing.T) {
	rnd := rand.New(rand.NewSource(23))
	back := func(s [2]api.Point) [2]api.Point { return [2]api.Point{s[1], s[0]} }
	for range 5000 {
		reach := pick(rnd, 2, 5, 100000)
		a, b := randomLine(rnd, reach), randomLine(rnd, reach)
		is, e := cloud.Cross(a, b)
		expect.Err(t, "Cross", e, api.OK)
		for _, x := range [][2][2]api.Point{{b, a}, {back(a), b}, {a, back(b)}, {back(b), back(a)}} {
			same, e := cloud.Cross(x[0], x[1])
			expect.Result(t, "Cross in another order", same, e, is, api.OK)
		}
		itself, e := cloud.Cross(a, a)
		expect.Result(t, "Cross of a segment and itself", itself, e, true, api.OK)
		ends, e := cloud.Cross(a, [2]api.Point{b[0], a[rnd.Intn(2)]})
		expect.Result(t, "Cross in an end", ends, e, true, api.OK)
		l, e := cloud.Alarms(a[:], [][2]api.Point{b})
		if len(l) == 1 != is || e != api.OK {
			t.Fatalf("Alarms of %v and %v: %v, error %d", a, b, l, e)
		}
	}
}
