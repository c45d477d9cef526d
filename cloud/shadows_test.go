package cloud_test

import (
	"math/rand"
	"slices"
	"testing"

	"spillage/api"
	"spillage/cloud"
	"spillage/expect"
	"spillage/light"
)

// P7.4

func TestCovered(t *testing.T) {
	for _, x := range []struct {
		m        light.Map
		limit    float32
		motion   api.Point
		ticks, t int
		l        []api.Point
	}{
		{a(), 1, at(1, 1), 10, 10, points(1, 1, 2, 1)}, {a(), 1, at(1, 1), 10, 4, points(0, 0, 1, 0)}, {a(), 1, at(1, 1), 10, 5, points(1, 1, 2, 1)}, {a(), 1, at(1, 1), 10, 15, points(2, 2, 3, 2)}, {a(), 1, at(-9, 0), 10, 10, points(-9, 0, -8, 0)}, {a(), 2, at(0, 4), 10, 10, points(0, 4, 1, 4)}, {a(), 2.0625, at(0, 4), 10, 10, nil}, {flat(3, 1, 0), 1, at(0, 0), 1, 0, nil},
		{a(), 1, at(1000, -1000), 1, 1000, points(1000000, -1000000, 1000001, -1000000)}, {shown(), 3, at(-1, 2), 4, 2, points(0, 1, 4, 1, 4, 2, 1, 4)}, {shown(), 3, at(-1, 2), 4, 3, points(-1, 2, 3, 2, 3, 3, 0, 5)},
	} {
		l, e := cloud.Covered(x.m, x.limit, x.motion, x.ticks, x.t)
		expect.List(t, "Covered", l, e, x.l, api.OK)
	}
}

func TestMayAndMust(t *testing.T) {
	row := points(0, 1, 1, 1, 2, 1, 3, 1)
	for _, x := range []struct {
		m         light.Map
		limit     float32
		d         cloud.Drift
		t         int
		cells     []api.Point
		may, must []bool
	}{
		{a(), 1, drift(0, 1, 1, 1), 10, row, []bool{true, true, true, false}, []bool{false, true, false, false}}, {a(), 1, drift(0, 1, 1, 1), 4, row, []bool{false, false, false, false}, []bool{false, false, false, false}}, {a(), 1, drift(0, 1, 1, 1), 5, row, []bool{true, true, true, false}, []bool{false, true, false, false}}, {a(), 1, drift(0, 1, 0, 1), 10, row, []bool{true, true, true, false}, []bool{false, false, false, false}}, {a(), 1, drift(1, 1, 1, 1), 10, row, []bool{false, true, true, false}, []bool{false, true, true, false}}, {a(), 1, drift(-1, 1, 1, 1), 10, row, []bool{true, true, true, false}, []bool{false, false, false, false}},
		{a(), 1, drift(0, 1, 1, 1), 0, points(0, 0, 1, 0, 2, 0, 0, 0), []bool{true, true, false, true}, []bool{true, true, false, true}}, {a(), 2.0625, drift(0, 1, 1, 1), 10, row, make([]bool, 4), make([]bool, 4)}, {flat(2, 2, 0), 1, drift(0, 0, 0, 0), 0, points(0, 0), []bool{false}, []bool{false}}, {a(), 1, drift(0, 1, 1, 1), 10, nil, nil, nil}, {flat(9, 9, 1), 1, drift(-4, 4, -4, 4), 10, points(4, 4, 3, 4, 4, 5, 12, 12, -4, -4, 13, 4), []bool{true, true, true, true, true, false}, []bool{true, false, false, false, false, false}},
		{a(), 1, drift(-1000, -999, 1000, 1000), 1000, points(-100000, 100000, -99999, 100000, -99900, 100000, -99899, 100000, -99898, 100000), []bool{true, true, true, true, false}, make([]bool, 5)},
	} {
		l, e := cloud.May(x.m, x.limit, x.d, x.t, x.cells)
		expect.List(t, "May", l, e, x.may, api.OK)
		l, e = cloud.Must(x.m, x.limit, x.d, x.t, x.cells)
		expect.List(t, "Must", l, e, x.must, api.OK)
	}
	many := slices.Repeat(points(100000, -100000), 256)
	l, e := cloud.May(a(), 1, drift(0, 1, 1, 1), 10, many)
	expect.List(t, "May of the most cells", l, e, make([]bool, 256), api.OK)
}

func TestWindow(t *testing.T) {
	for _, x := range []struct {
		d       cloud.Drift
		cell    api.Point
		horizon int
		w       api.Span
		e       api.Errno
	}{
		{drift(1, 1, 1, 1), at(2, 1), 30, span(5, 15), api.OK}, {drift(1, 1, 1, 1), at(2, 1), 14, span(5, 15), api.OK}, {drift(1, 1, 1, 1), at(2, 1), 13, span(5, 14), api.OK}, {drift(1, 1, 1, 1), at(2, 1), 9, span(5, 10), api.OK}, {drift(1, 1, 1, 1), at(2, 1), 5, span(5, 6), api.OK}, {drift(1, 1, 1, 1), at(2, 1), 4, api.Span{}, api.ErrNone}, {drift(1, 1, 1, 1), at(2, 1), 1, api.Span{}, api.ErrNone},
		{drift(1, 1, 0, 0), at(1, 0), 30, span(0, 15), api.OK}, {drift(1, 1, 0, 0), at(1, 0), 1, span(0, 2), api.OK}, {drift(0, 1, 0, 0), at(3, 0), 30, span(15, 31), api.OK}, {drift(0, 0, 0, 0), at(0, 0), 1000, span(0, 1001), api.OK}, {drift(0, 0, 0, 0), at(2, 0), 1000, api.Span{}, api.ErrNone}, {drift(-1, 0, 0, 0), at(-99, 0), 1000, span(986, 1001), api.OK}, {drift(-1, 0, 0, 0), at(-100, 0), 1000, span(996, 1001), api.OK}, {drift(-1, 0, 0, 0), at(-101, 0), 1000, api.Span{}, api.ErrNone},
		{during(1, to(1000, 1000), to(0, 0)), at(100000, 0), 1000, span(100, 101), api.OK}, {during(1, to(1000, 1000), to(0, 0)), at(99999, 0), 1000, api.Span{}, api.ErrNone}, {drift(0, 0, 1, 1), at(0, -1), 1000, api.Span{}, api.ErrNone},
		// one motion covers the cell first, another one last, and none in between
		{during(10, to(2, 10), to(0, 0)), at(4, 0), 30, span(3, 23), api.OK}, {during(9, to(1, 9), to(0, 0)), at(9, 0), 1000, span(8, 86), api.OK},
	} {
		w, e := cloud.Window(a(), 2, x.d, x.cell, x.horizon)
		expect.Result(t, "Window", w, e, x.w, x.e)
	}
	w, e := cloud.Window(a(), 2.0625, drift(0, 0, 0, 0), at(0, 0), 30)
	expect.Result(t, "Window without a cloud", w, e, api.Span{}, api.ErrNone)
	w, e = cloud.Window(drawn("10001"), 1, drift(4, 4, 0, 0), at(4, 0), 30)
	expect.Result(t, "Window of a cell that is not covered in between", w, e, span(0, 12), api.OK)
}

// nearby returns all cells up to a reach beside an image.
func nearby(m light.Map, reach int) []api.Point {
	var l []api.Point
	for y := -reach; y < m.Height+reach; y++ {
		for x := -reach; x < m.Width+reach; x++ {
			l = append(l, at(x, y))
		}
	}
	return l
}

func TestShadowsOfRandomDrifts(t *testing.T) {
	rnd := rand.New(rand.NewSource(11))
	counts := map[bool]int{}
	for range 300 {
		m := randomImage(rnd, between(rnd, 1, 5), between(rnd, 1, 5), 6)
		limit, d := float32(between(rnd, 1, 4))/16, randomDrift(rnd, 3, 3)
		ahead := between(rnd, 0, 2*d.Ticks)
		cells := nearby(m, 3)
		may, e := cloud.May(m, limit, d, ahead, cells)
		expect.Err(t, "May", e, api.OK)
		must, e := cloud.Must(m, limit, d, ahead, cells)
		expect.Err(t, "Must", e, api.OK)
		for i, cell := range cells {
			some, all := covering(m, limit, d, ahead, cell)
			if may[i] != (some > 0) || must[i] != (some == all) {
				t.Fatalf("%v %v %v after %d ticks: %v, %v at %v for %d of %d motions", m, limit, d, ahead, may[i], must[i], cell, some, all)
			}
			counts[may[i] && !must[i]]++
		}
		motion := at(d.X.Low, d.Y.High)
		covered, e := cloud.Covered(m, limit, motion, d.Ticks, ahead)
		var wanted []api.Point
		for _, p := range darkOf(m, limit) {
			wanted = append(wanted, at(p.X+movedBy(motion.X, d.Ticks, ahead), p.Y+movedBy(motion.Y, d.Ticks, ahead)))
		}
		expect.List(t, "Covered", covered, e, wanted, api.OK)
	}
	if counts[true] < 1000 || counts[false] < 1000 {
		t.Errorf("the counts are %v", counts)
	}
}

func TestWindowsOfRandomDrifts(t *testing.T) {
	rnd := rand.New(rand.NewSource(12))
	found := 0
	for range 1500 {
		m := randomImage(rnd, between(rnd, 1, 4), between(rnd, 1, 4), 6)
		limit, d, cell, horizon := float32(between(rnd, 1, 4))/16, randomDrift(rnd, 3, 3), at(between(rnd, -2, 5), between(rnd, -2, 5)), between(rnd, 1, 30)
		first, last := -1, -1
		for t := range horizon + 1 {
			if some, _ := covering(m, limit, d, t, cell); some > 0 {
				last = t
				if first < 0 {
					first = t
				}
			}
		}
		w, e := cloud.Window(m, limit, d, cell, horizon)
		if first < 0 {
			expect.Result(t, "Window", w, e, api.Span{}, api.ErrNone)
			continue
		}
		expect.Result(t, "Window", w, e, span(first, last+1), api.OK)
		found++
	}
	if found < 200 || found > 1300 {
		t.Errorf("there were %d windows", found)
	}
}

func TestShadow(t *testing.T) {
	for _, x := range []struct {
		height api.Interval
		sun    api.Vector
		x, y   api.Interval
	}{
		{to(10, 20), sun(3, -1, 4), to(-15, -7), to(2, 5)}, {to(8, 8), sun(0, 3, 4), to(0, 0), to(-6, -6)}, {to(1, 2), sun(1, 1, 3), to(-1, 0), to(-1, 0)}, {to(1, 1), sun(1, -1, 3), to(-1, 0), to(0, 1)}, {to(1, 10000), sun(0, 0, 1), to(0, 0), to(0, 0)}, {to(7, 7), sun(1, -1, 2), to(-4, -3), to(3, 4)}, {to(3, 6), sun(-2, 4, 3), to(2, 4), to(-8, -4)}, {to(4, 5), sun(-2, 4, 3), to(2, 4), to(-7, -5)}, {to(6, 6), sun(-2, 4, 3), to(4, 4), to(-8, -8)},
		{to(1, 10000), sun(4096, -4096, 1), to(-40960000, -4096), to(4096, 40960000)}, {to(1, 10000), sun(1, -1, 4096), to(-3, 0), to(0, 3)}, {to(10000, 10000), sun(-4095, 4095, 4096), to(9997, 9998), to(-9998, -9997)}, {to(5, 5), sun(-1, 0, 1), to(5, 5), to(0, 0)},
	} {
		s, e := cloud.Shadow(x.height, x.sun)
		expect.Result(t, "Shadow", s, e, [2]api.Interval{x.x, x.y}, api.OK)
	}
}

func TestShadowOfRandomHeights(t *testing.T) {
	rnd := rand.New(rand.NewSource(13))
	for range 3000 {
		low, reach := between(rnd, 1, 40), pick(rnd, 3, 30, 4096)
		height, v := to(low, low+rnd.Intn(9)), sun(between(rnd, -reach, reach), between(rnd, -reach, reach), between(rnd, 1, reach))
		s, e := cloud.Shadow(height, v)
		expect.Result(t, "Shadow", s, e, shadowOf(height, v), api.OK)
	}
}
