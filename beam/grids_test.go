package beam_test

import (
	"math/rand"
	"slices"
	"testing"

	"spillage/api"
	"spillage/beam"
	"spillage/expect"
)

// P6.1

func TestCheckGrid(t *testing.T) {
	plain := func(change func(g *beam.Grid)) beam.Grid { return altered(wide(), change) }
	for i, g := range []beam.Grid{
		{}, {Blur: 100}, plane(), wide(), cut(), beside(), greatest(), chain(),
		plain(func(g *beam.Grid) { g.Blur = 0 }), plain(func(g *beam.Grid) { g.Stations[1].Place = g.Stations[0].Place }), plain(func(g *beam.Grid) { g.Stations[1].Name, g.Zones[0].Name = "bird", "bird" }), plain(func(g *beam.Grid) { g.Stations[0].Place = at(1000, 0) }), plain(func(g *beam.Grid) { g.Stations[0].Place = at(0, 1000) }), plain(func(g *beam.Grid) { g.Stations[0].Name = "F" }),
		plain(func(g *beam.Grid) { g.Moves[0].Steps = 1 }), plain(func(g *beam.Grid) { g.Moves[0].Steps = 20 }), plain(func(g *beam.Grid) { g.Moves[0] = move(4, 5, 1) }), plain(func(g *beam.Grid) { g.Moves = nil }), plain(func(g *beam.Grid) { slices.Reverse(g.Moves) }),
		plain(func(g *beam.Grid) { g.Zones = []beam.Zone{zone("x", 0, 1000, 500), zone("y", 1000, 0, 0)} }), plain(func(g *beam.Grid) { g.Zones = nil }),
	} {
		if e := beam.CheckGrid(g); e != api.OK {
			t.Errorf("CheckGrid %d: error %d", i, e)
		}
	}
}

// TestTheFirstErrorOfAGridDecides checks the order of the errors in one element, and of the elements.
func TestTheFirstErrorOfAGridDecides(t *testing.T) {
	for i, x := range []struct {
		change func(g *beam.Grid)
		e      api.Errno
	}{
		{func(g *beam.Grid) { g.Stations[1] = beam.Station{Name: "7", Kind: "x", Place: at(-1, -1)} }, api.ErrName}, {func(g *beam.Grid) { g.Stations[1] = beam.Station{Name: "f", Kind: "x", Place: at(-1, -1)} }, api.ErrTwice}, {func(g *beam.Grid) { g.Stations[1] = beam.Station{Name: "a", Kind: "x", Place: at(-1, -1)} }, api.ErrKind}, {func(g *beam.Grid) { g.Stations[1].Place, g.Stations[2].Kind = at(-1, 0), "x" }, api.ErrRange}, {func(g *beam.Grid) { g.Stations[1].Kind, g.Stations[2].Place = "x", at(-1, 0) }, api.ErrKind},
		{func(g *beam.Grid) { g.Moves[1] = move(9, 0, 0) }, api.ErrUnknown}, {func(g *beam.Grid) { g.Moves[1] = move(2, 0, 0) }, api.ErrOrder}, {func(g *beam.Grid) { g.Moves[1] = move(0, 1, 0) }, api.ErrTwice}, {func(g *beam.Grid) { g.Moves[1], g.Moves[2] = move(0, 2, 0), move(9, 9, 9) }, api.ErrRange}, {func(g *beam.Grid) { g.Moves[1], g.Moves[2] = move(2, 1, 3), move(0, 1, 3) }, api.ErrOrder},
		{func(g *beam.Grid) { g.Zones = []beam.Zone{zone("a", 0, 0, 0), zone("7", -1, -1, -1)} }, api.ErrName}, {func(g *beam.Grid) { g.Zones = []beam.Zone{zone("a", 0, 0, 0), zone("a", -1, -1, -1)} }, api.ErrTwice}, {func(g *beam.Grid) { g.Zones = []beam.Zone{zone("a", 0, 0, 501), zone("a", 0, 0, 0)} }, api.ErrRange},
		{func(g *beam.Grid) { g.Blur, g.Stations = -1, make([]beam.Station, 17) }, api.ErrRange}, {func(g *beam.Grid) { g.Stations, g.Moves = make([]beam.Station, 17), make([]beam.Move, 41) }, api.ErrMany}, {func(g *beam.Grid) { g.Stations[5].Kind, g.Moves = "", make([]beam.Move, 41) }, api.ErrKind}, {func(g *beam.Grid) { g.Moves[6].To, g.Zones = 3, make([]beam.Zone, 9) }, api.ErrTwice}, {func(g *beam.Grid) { g.Moves[6].To, g.Zones = 1, make([]beam.Zone, 9) }, api.ErrOrder},
	} {
		if e := beam.CheckGrid(altered(wide(), x.change)); e != x.e {
			t.Errorf("CheckGrid %d: error %d, want %d", i, e, x.e)
		}
	}
}

func TestExamplesOfTouches(t *testing.T) {
	bird, point := zone("bird", 500, 400, 20), zone("p", 10, 10, 0)
	for i, x := range []struct {
		z    beam.Zone
		blur int
		line [2]api.Point
		is   bool
	}{
		{bird, 5, [2]api.Point{at(500, 500), at(500, 300)}, true}, {bird, 5, [2]api.Point{at(400, 500), at(500, 300)}, false}, {bird, 5, [2]api.Point{at(500, 300), at(400, 500)}, false},
		{bird, 5, [2]api.Point{at(525, 0), at(525, 1000)}, true}, {bird, 5, [2]api.Point{at(526, 0), at(526, 1000)}, false}, {bird, 6, [2]api.Point{at(526, 0), at(526, 1000)}, true}, {bird, 0, [2]api.Point{at(0, 420), at(1000, 420)}, true}, {bird, 0, [2]api.Point{at(0, 421), at(1000, 421)}, false},
		{bird, 5, [2]api.Point{at(500, 500), at(500, 426)}, false}, {bird, 5, [2]api.Point{at(500, 426), at(500, 500)}, false}, {bird, 5, [2]api.Point{at(500, 500), at(500, 425)}, true}, {bird, 5, [2]api.Point{at(500, 425), at(500, 500)}, true}, {bird, 5, [2]api.Point{at(500, 400), at(500, 400)}, true}, {bird, 5, [2]api.Point{at(500, 425), at(500, 425)}, true}, {bird, 5, [2]api.Point{at(500, 426), at(500, 426)}, false}, {bird, 5, [2]api.Point{at(515, 420), at(515, 420)}, true}, {bird, 5, [2]api.Point{at(516, 420), at(516, 420)}, false}, {bird, 5, [2]api.Point{at(515, 420), at(900, 900)}, true}, {bird, 5, [2]api.Point{at(516, 420), at(900, 900)}, false}, {bird, 5, [2]api.Point{at(900, 900), at(515, 420)}, true}, {bird, 5, [2]api.Point{at(490, 400), at(510, 400)}, true}, {bird, 5, [2]api.Point{at(495, 395), at(495, 395)}, true},
		{bird, 5, [2]api.Point{at(474, 400), at(474, 400)}, false}, {bird, 5, [2]api.Point{at(475, 400), at(475, 400)}, true}, {bird, 5, [2]api.Point{at(0, 400), at(474, 400)}, false}, {bird, 5, [2]api.Point{at(0, 400), at(475, 400)}, true}, {bird, 5, [2]api.Point{at(1000, 400), at(526, 400)}, false}, {bird, 5, [2]api.Point{at(1000, 400), at(525, 400)}, true},
		{point, 0, [2]api.Point{at(0, 0), at(20, 20)}, true}, {point, 0, [2]api.Point{at(0, 0), at(10, 10)}, true}, {point, 0, [2]api.Point{at(10, 10), at(20, 0)}, true}, {point, 0, [2]api.Point{at(0, 0), at(9, 9)}, false}, {point, 0, [2]api.Point{at(11, 11), at(20, 20)}, false}, {point, 0, [2]api.Point{at(0, 0), at(1000, 999)}, false}, {point, 0, [2]api.Point{at(0, 0), at(1000, 1000)}, true}, {point, 0, [2]api.Point{at(10, 10), at(10, 10)}, true}, {point, 0, [2]api.Point{at(10, 11), at(10, 11)}, false}, {point, 1, [2]api.Point{at(10, 11), at(10, 11)}, true}, {point, 0, [2]api.Point{at(5, 5), at(5, 5)}, false}, {point, 1, [2]api.Point{at(0, 0), at(1000, 999)}, true},
		{zone("z", 0, 0, 500), 100, [2]api.Point{at(1000, 0), at(0, 1000)}, false}, {zone("z", 100, 100, 500), 65, [2]api.Point{at(1000, 0), at(0, 1000)}, false}, {zone("z", 100, 100, 500), 66, [2]api.Point{at(1000, 0), at(0, 1000)}, true}, {zone("z", 0, 0, 500), 100, [2]api.Point{at(600, 0), at(600, 1000)}, true}, {zone("z", 0, 0, 500), 100, [2]api.Point{at(601, 0), at(600, 1000)}, false}, {zone("z", 0, 0, 500), 100, [2]api.Point{at(360, 480), at(1000, 1000)}, true}, {zone("z", 0, 0, 500), 100, [2]api.Point{at(361, 480), at(1000, 1000)}, false},
	} {
		is, e := beam.Touches(x.z, x.blur, x.line)
		if is != x.is || e != api.OK {
			t.Errorf("Touches %d: %v, error %d", i, is, e)
		}
	}
}

// randomLine returns a line of a plane; it may lead to the place where it begins.
func randomLine(r *rand.Rand, side int) [2]api.Point {
	line := [2]api.Point{at(r.Intn(side), r.Intn(side)), at(r.Intn(side), r.Intn(side))}
	if r.Intn(10) == 0 {
		line[1] = line[0]
	}
	return line
}

func TestTouchesAsDefined(t *testing.T) {
	rnd := rand.New(rand.NewSource(93))
	counts := map[bool]int{}
	for range 20000 {
		side := []int{6, 40, 1001}[rnd.Intn(3)]
		z, blur := zone("z", rnd.Intn(side), rnd.Intn(side), rnd.Intn(side/2)), rnd.Intn(min(side/4, 101))
		line := randomLine(rnd, side)
		wanted := touches(z, blur, line)
		is, e := beam.Touches(z, blur, line)
		if is != wanted || e != api.OK {
			t.Fatalf("Touches %v %d %v: %v, error %d", z, blur, line, is, e)
		}
		counts[is]++
	}
	if counts[true] < 2000 || counts[false] < 2000 {
		t.Errorf("the counts are %v", counts)
	}
}

func TestExamplesOfSafeMoves(t *testing.T) {
	open := func(g beam.Grid) beam.Grid { return altered(g, func(g *beam.Grid) { g.Zones = nil }) }
	for i, x := range []struct {
		g beam.Grid
		l []int
	}{
		{plane(), ints(0, 2, 3, 4)}, {wide(), ints(0, 2, 3, 4)}, {cut(), ints(1, 2, 3)}, {beside(), ints(1, 4)}, {open(plane()), ints(0, 1, 2, 3, 4)}, {open(wide()), ints(0, 1, 2, 3, 4, 5, 6)}, {beam.Grid{}, nil}, {beam.Grid{Zones: plane().Zones}, nil},
		{altered(plane(), func(g *beam.Grid) { g.Blur = 100 }), ints(3)}, {altered(plane(), func(g *beam.Grid) { g.Blur = 69 }), ints(0, 3, 4)}, {altered(plane(), func(g *beam.Grid) { g.Blur = 24 }), ints(0, 2, 3, 4)}, {altered(plane(), func(g *beam.Grid) { g.Blur = 25 }), ints(0, 3, 4)}, {altered(plane(), func(g *beam.Grid) { g.Zones = append(g.Zones, zone("far", 0, 0, 0)) }), ints(0, 2)}, {altered(plane(), func(g *beam.Grid) { g.Zones = append([]beam.Zone{zone("far", 0, 0, 0)}, g.Zones...) }), ints(0, 2)}, {altered(plane(), func(g *beam.Grid) { slices.Reverse(g.Moves) }), ints(0, 1, 2, 4)},
		{altered(plane(), func(g *beam.Grid) { g.Stations[1].Place = g.Stations[0].Place }), ints(0, 3, 4)}, {altered(plane(), func(g *beam.Grid) { g.Stations[1].Place, g.Zones[0].Centre = at(500, 500), at(500, 500) }), ints(4)},
	} {
		l, e := beam.SafeMoves(x.g)
		expect.List(t, "SafeMoves", append(ints(i), l...), e, append(ints(i), x.l...), api.OK)
	}
}

func TestSafeMovesAsDefined(t *testing.T) {
	rnd := rand.New(rand.NewSource(94))
	safe, unsafe := 0, 0
	for range 1500 {
		g := randomGrid(rnd, between(rnd, 0, 16))
		l, e := beam.SafeMoves(g)
		expect.List(t, "SafeMoves", l, e, safeMoves(g), api.OK)
		safe, unsafe = safe+len(l), unsafe+len(g.Moves)-len(l)
	}
	if safe < 1000 || unsafe < 1000 {
		t.Errorf("%d moves were safe, and %d not", safe, unsafe)
	}
}
