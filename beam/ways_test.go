package beam_test

import (
	"math/rand"
	"slices"
	"testing"

	"spillage/api"
	"spillage/beam"
	"spillage/expect"
)

// P6.2

// star returns a grid of five stations around which there are no zones, with some moves.
func star(moves ...beam.Move) beam.Grid {
	return beam.Grid{Stations: []beam.Station{station("f", "focus", 0, 0), station("a", "standby", 10, 0), station("b", "standby", 0, 10), station("c", "stow", 10, 10), station("d", "focus", 20, 20)}, Moves: moves}
}

func TestExamplesOfWay(t *testing.T) {
	steps := func(move, n int) beam.Grid {
		return altered(plane(), func(g *beam.Grid) { g.Moves[move].Steps = n })
	}
	for i, x := range []struct {
		g        beam.Grid
		from, to int
		way      []int
		steps    int
		e        api.Errno
	}{
		{plane(), 0, 3, ints(0, 1, 3), 14, api.OK}, {plane(), 0, 2, ints(0, 1, 2), 7, api.OK}, {plane(), 3, 0, ints(3, 1, 0), 14, api.OK}, {plane(), 2, 0, ints(2, 1, 0), 7, api.OK}, {plane(), 0, 0, ints(0), 0, api.OK}, {plane(), 3, 3, ints(3), 0, api.OK}, {wide(), alone, alone, ints(alone), 0, api.OK}, {wide(), 0, 3, ints(0, 1, 3), 14, api.OK},
		{steps(3, 12), 0, 3, ints(0, 1, 3), 16, api.OK}, {steps(3, 13), 0, 3, ints(0, 1, 2, 3), 16, api.OK}, {steps(3, 13), 3, 0, ints(3, 2, 1, 0), 16, api.OK}, {steps(3, 12), 3, 0, ints(3, 1, 0), 16, api.OK}, {steps(0, 20), 0, 1, ints(0, 1), 20, api.OK},
		{cut(), 0, 3, nil, 0, api.ErrNone}, {cut(), 3, 0, nil, 0, api.ErrNone}, {cut(), 0, 0, ints(0), 0, api.OK}, {wide(), alone, 3, nil, 0, api.ErrNone}, {wide(), 3, alone, nil, 0, api.ErrNone}, {beside(), 0, 3, ints(0, 2, 3), 15, api.OK},
		{star(move(0, 1, 2), move(0, 2, 2), move(1, 3, 2), move(2, 3, 2)), 0, 3, ints(0, 1, 3), 4, api.OK}, {star(move(0, 1, 2), move(0, 2, 2), move(1, 3, 2), move(2, 3, 2)), 3, 0, ints(3, 1, 0), 4, api.OK}, {star(move(2, 3, 2), move(1, 3, 2), move(0, 2, 2), move(0, 1, 2)), 0, 3, ints(0, 1, 3), 4, api.OK}, {star(move(0, 1, 2), move(0, 2, 1), move(1, 3, 2), move(2, 3, 3)), 0, 3, ints(0, 1, 3), 4, api.OK}, {star(move(0, 1, 3), move(0, 2, 2), move(1, 3, 2), move(2, 3, 2)), 0, 3, ints(0, 2, 3), 4, api.OK}, {star(move(0, 1, 1), move(1, 2, 1), move(2, 3, 1), move(0, 3, 3)), 0, 3, ints(0, 3), 3, api.OK}, {star(move(0, 1, 1), move(1, 2, 1), move(2, 3, 1), move(0, 3, 4)), 0, 3, ints(0, 1, 2, 3), 3, api.OK},
		{star(move(0, 2, 1), move(2, 3, 1), move(3, 4, 2), move(0, 1, 1), move(1, 2, 1), move(2, 4, 3)), 0, 4, ints(0, 2, 4), 4, api.OK}, {star(move(0, 2, 1), move(1, 2, 1), move(2, 3, 1), move(1, 4, 1), move(3, 4, 1)), 0, 4, ints(0, 2, 1, 4), 3, api.OK}, {star(move(0, 2, 1), move(1, 2, 1), move(2, 3, 1), move(1, 4, 1), move(3, 4, 1)), 4, 0, ints(4, 1, 2, 0), 3, api.OK}, {star(move(0, 2, 1), move(1, 2, 2), move(2, 3, 1), move(1, 4, 1), move(3, 4, 1)), 0, 4, ints(0, 2, 3, 4), 3, api.OK},
		{chain(), 0, 15, ints(0, 1, 2, 3, 4, 5, 6, 7, 8, 9, 10, 11, 12, 13, 14, 15), 300, api.OK}, {chain(), 15, 0, ints(15, 14, 13, 12, 11, 10, 9, 8, 7, 6, 5, 4, 3, 2, 1, 0), 300, api.OK},
	} {
		way, steps, e := beam.Way(x.g, x.from, x.to)
		expect.List(t, "Way", append(ints(i, steps), way...), e, append(ints(i, x.steps), x.way...), x.e)
	}
}

func TestExamplesOfSteps(t *testing.T) {
	for _, x := range []struct {
		way   []int
		steps int
	}{{ints(0, 1, 2, 3), 16}, {ints(3), 0}, {ints(alone), 0}, {ints(1, 2, 1), 6}, {ints(3, 1, 0), 14}, {ints(0, 1, 0, 1, 0), 16}, {slices.Repeat(ints(1, 2), 20), 117}} {
		steps, e := beam.Steps(wide(), x.way)
		expect.Result(t, "Steps", steps, e, x.steps, api.OK)
	}
	steps, e := beam.Steps(chain(), slices.Repeat(ints(7, 8), 20))
	expect.Result(t, "Steps of the longest way", steps, e, 780, api.OK)
}

func TestExamplesOfReached(t *testing.T) {
	for i, x := range []struct {
		g    beam.Grid
		from int
		l    []int
	}{
		{plane(), 0, ints(0, 1, 2, 3)}, {plane(), 3, ints(0, 1, 2, 3)}, {cut(), 0, ints(0)}, {cut(), 2, ints(1, 2, 3)}, {cut(), 3, ints(1, 2, 3)}, {wide(), 0, ints(0, 1, 2, 3)}, {wide(), alone, ints(alone)}, {beside(), 0, ints(0, 2, 3)}, {chain(), 7, ints(0, 1, 2, 3, 4, 5, 6, 7, 8, 9, 10, 11, 12, 13, 14, 15)}, {star(), 4, ints(4)},
	} {
		l, e := beam.Reached(x.g, x.from)
		expect.List(t, "Reached", append(ints(i), l...), e, append(ints(i), x.l...), api.OK)
	}
}

func TestExamplesOfBarriers(t *testing.T) {
	for i, x := range []struct {
		g        beam.Grid
		from, to int
		set      []int
		e        api.Errno
	}{
		{cut(), 0, 3, ints(0), api.OK}, {cut(), 3, 0, ints(1, 2, 3), api.OK}, {cut(), 1, 0, ints(1, 2, 3), api.OK}, {cut(), 1, 3, nil, api.ErrRule}, {cut(), 3, 3, nil, api.ErrRule}, {cut(), 0, 0, nil, api.ErrRule}, {plane(), 0, 3, nil, api.ErrRule}, {plane(), 2, 2, nil, api.ErrRule}, {wide(), 0, alone, ints(0, 1, 2, 3), api.OK}, {wide(), alone, 0, ints(alone), api.OK}, {wide(), alone, alone, nil, api.ErrRule},
	} {
		l, e := beam.Barrier(x.g, x.from, x.to)
		expect.List(t, "Barrier", append(ints(i), l...), e, append(ints(i), x.set...), x.e)
	}
	for i, x := range []struct {
		g        beam.Grid
		from, to int
		set      []int
		e        api.Errno
	}{
		{cut(), 0, 3, ints(0), api.OK}, {cut(), 0, 3, ints(0, 1), api.ErrProof}, {cut(), 0, 3, ints(0, 2), api.ErrProof}, {cut(), 0, 3, ints(0, 1, 2), api.ErrProof}, {cut(), 0, 3, ints(0, 1, 2, 3), api.ErrProof}, {cut(), 0, 3, ints(1, 2), api.ErrProof}, {cut(), 0, 3, ints(1, 2, 3), api.ErrProof}, {cut(), 0, 3, nil, api.ErrProof}, {cut(), 0, 0, ints(0), api.ErrProof}, {cut(), 3, 0, ints(1, 2, 3), api.OK}, {cut(), 3, 0, ints(2, 3), api.ErrProof}, {cut(), 3, 0, ints(1, 2), api.ErrProof},
		{wide(), 0, alone, ints(0, 1, 2, 3), api.OK}, {wide(), 0, alone, ints(0, 1, 2, 3, held), api.OK}, {wide(), 0, alone, ints(0, 1, 2, 3, alone), api.ErrProof}, {wide(), 0, alone, ints(0, 1, 2), api.ErrProof}, {wide(), 0, alone, ints(0, 1, 2, held), api.ErrProof}, {wide(), 0, alone, ints(0, held), api.ErrProof}, {wide(), alone, 0, ints(alone), api.OK}, {wide(), alone, 0, ints(held, alone), api.OK}, {wide(), alone, 0, ints(held), api.ErrProof}, {wide(), alone, 0, ints(1, 2, 3, alone), api.ErrProof}, {wide(), 0, 3, ints(0, 1, 2), api.ErrProof}, {wide(), alone, alone, ints(alone), api.ErrProof},
		{chain(), 0, 15, ints(0, 1, 2, 3, 4, 5, 6, 7, 8, 9, 10, 11, 12, 13, 14, 15), api.ErrProof}, {altered(chain(), func(g *beam.Grid) { g.Moves = g.Moves[:14] }), 0, 15, ints(0, 1, 2, 3, 4, 5, 6, 7, 8, 9, 10, 11, 12, 13, 14), api.OK},
	} {
		if e := beam.CheckBarrier(x.g, x.from, x.to, x.set); e != x.e {
			t.Errorf("CheckBarrier %d: error %d, want %d", i, e, x.e)
		}
	}
}

func TestExamplesOfHomes(t *testing.T) {
	for i, x := range []struct {
		g beam.Grid
		l []int
	}{
		{plane(), ints(1, 1, 2, 2)}, {cut(), ints(-1, 1, 2, 2)}, {beside(), ints(2, -1, 2, 2)}, {wide(), ints(1, 1, 2, 2, -1, -1)}, {beam.Grid{}, nil}, {star(), ints(-1, 1, 2, -1, -1)},
		{star(move(0, 1, 2), move(0, 2, 2)), ints(1, 1, 2, -1, -1)}, {star(move(0, 1, 3), move(0, 2, 2)), ints(2, 1, 2, -1, -1)}, {star(move(0, 1, 2), move(0, 3, 1), move(2, 3, 1)), ints(1, 1, 2, 2, -1)}, {star(move(0, 1, 3), move(0, 3, 1), move(2, 3, 1)), ints(2, 1, 2, 2, -1)}, {star(move(1, 2, 1), move(2, 3, 20), move(3, 4, 20)), ints(-1, 1, 2, 2, 2)}, {chain(), make([]int, 16)},
		{altered(plane(), func(g *beam.Grid) { g.Stations[1].Kind = "stow" }), ints(2, 2, 2, 2)}, {altered(plane(), func(g *beam.Grid) { g.Stations[1].Kind, g.Stations[2].Kind = "stow", "focus" }), ints(-1, -1, -1, -1)}, {altered(plane(), func(g *beam.Grid) { g.Moves[4].Steps = 10 }), ints(1, 1, 2, 1)},
	} {
		l, e := beam.Homes(x.g)
		expect.List(t, "Homes", append(ints(i), l...), e, append(ints(i), x.l...), api.OK)
	}
}

func TestWaysAsDefined(t *testing.T) {
	rnd := rand.New(rand.NewSource(95))
	counts := map[api.Errno]int{}
	for range 4000 {
		g := netOf(randomGrid(rnd, between(rnd, 1, 6)))
		l, e := beam.Homes(g.Grid)
		expect.List(t, "Homes", l, e, homesOf(g), api.OK)
		from, to := rnd.Intn(len(g.Stations)), rnd.Intn(len(g.Stations))
		if !g.safe[from] || !g.safe[to] {
			counts[api.ErrHeld]++
			continue
		}
		l, e = beam.Reached(g.Grid, from)
		expect.List(t, "Reached", l, e, reached(g, from), api.OK)
		wanted, wantedSteps := leastWay(g, from, to)
		way, steps, e := beam.Way(g.Grid, from, to)
		barrier, f := beam.Barrier(g.Grid, from, to)
		if wanted == nil {
			expect.List(t, "Way", append(way, steps), e, ints(0), api.ErrNone)
			expect.List(t, "Barrier", barrier, f, reached(g, from), api.OK)
		} else {
			expect.List(t, "Way", append(way, steps), e, append(slices.Clone(wanted), wantedSteps), api.OK)
			expect.List(t, "Barrier", barrier, f, nil, api.ErrRule)
		}
		counts[e]++
		wantSets(t, rnd, g, from, to)
	}
	if counts[api.OK] < 1000 || counts[api.ErrNone] < 200 || counts[api.ErrHeld] < 200 {
		t.Errorf("the counts are %v", counts)
	}
}

// wantSets checks CheckBarrier with sets that are drawn at random, and Steps with walks.
func wantSets(t *testing.T, rnd *rand.Rand, g net, from, to int) {
	t.Helper()
	for range 20 {
		var set []int
		for i := range g.Stations {
			if rnd.Intn(2) == 0 {
				set = append(set, i)
			}
		}
		e := api.ErrProof
		if isBarrier(g, from, to, set) {
			e = api.OK
		}
		expect.Err(t, "CheckBarrier", beam.CheckBarrier(g.Grid, from, to, set), e)
		way := append(ints(from), randomWalk(rnd, g, from, rnd.Intn(40))...)
		steps, e := beam.Steps(g.Grid, way)
		expect.Result(t, "Steps", steps, e, stepsOf(g, way), api.OK)
	}
}
