package grid_test

import (
	"math/rand"
	"slices"
	"testing"

	"spillage/api"
	"spillage/expect"
	"spillage/grid"
)

// P9.5, and P10 of the whole document

// turned returns phasors, each one times another one.
func turned(l []api.Gauss, by ...api.Gauss) []api.Gauss {
	var out []api.Gauss
	for i, x := range l {
		out = append(out, times(x, by[i%len(by)]))
	}
	return out
}

func TestTheOwnPhasorIsInStep(t *testing.T) {
	rnd := rand.New(rand.NewSource(21))
	counts := map[bool]int{}
	for range 5000 {
		x, w := randomPhasor(rnd, pick(rnd, 2, 100, 1<<20)), randomWindow(rnd)
		has := w.Least <= 100 && 100 <= w.Most
		counts[has]++
		is, e := grid.InStep(x, x, w)
		expect.Result(t, "InStep of the grid's own phasor", is, e, has, api.OK)
		for _, by := range phasors(0, 1, 0, -1, -1, 0) {
			is, e = grid.InStep(x, times(x, by), w)
			expect.Result(t, "InStep of the grid's phasor, turned", is, e, false, api.OK)
		}
	}
	if counts[true] < 500 || counts[false] < 500 {
		t.Errorf("the counts are %v", counts)
	}
}

// TestJoinedOnlyInStep checks that a generator is in step when it is joined, and has been for as long as it must, and not before.
func TestJoinedOnlyInStep(t *testing.T) {
	rnd := rand.New(rand.NewSource(22))
	joined := 0
	for range 3000 {
		var a, b []api.Gauss
		for range between(rnd, 1, 30) {
			x := randomPhasor(rnd, 30)
			a, b = append(a, x), append(b, z(x.Re+between(rnd, -9, 9), x.Im+between(rnd, -9, 9)))
		}
		w, hold := window(1, between(rnd, 1, 4), between(rnd, 0, 90), between(rnd, 110, 400)), between(rnd, 1, 4)
		n, e := grid.Joined(a, b, w, hold)
		run := 0
		for i := range a {
			is, f := grid.InStep(a[i], b[i], w)
			expect.Err(t, "InStep", f, api.OK)
			if run++; !is {
				run = 0
			}
			if isNow := e == api.OK && i == n; isNow != (run == hold) {
				t.Fatalf("Joined %v %v %v %d: %d, error %d, but at %d it has been in step for %d", a, b, w, hold, n, e, i, run)
			}
			if run == hold {
				joined++
				break
			}
		}
	}
	if joined < 500 {
		t.Errorf("only %d generators were joined", joined)
	}
}

func TestSlipOfWholeTurns(t *testing.T) {
	rnd := rand.New(rand.NewSource(23))
	for range 2000 {
		var a []api.Gauss
		x := randomPhasor(rnd, 1000)
		for range 5 {
			a = append(a, randomPhasor(rnd, 1000))
		}
		// the generator stands at x as seen from its grid, and turns by a quarter each time
		for _, way := range []struct{ quarter, slip int }{{1, 4}, {-1, -4}} {
			b := turned(slices.Repeat([]api.Gauss{x}, 5), phasors(1, 0, 0, way.quarter, -1, 0, 0, -way.quarter, 1, 0)...)
			n, e := grid.Slip(slices.Repeat(phasors(7, 3), 5), b)
			expect.Result(t, "Slip of a whole turn", n, e, way.slip, api.OK)
		}
		n, e := grid.Slip(a, a)
		expect.Result(t, "Slip of the grid itself", n, e, 0, api.OK)
		n, e = grid.Slip(a, turned(a, phasors(1, 0, 0, 1, -1, 0, 0, -1, 1, 0)...))
		expect.Result(t, "Slip of a turn around a grid that turns", n, e, 4, api.OK)
		n, e = grid.Slip(a, turned(a, phasors(1, 0, 0, -1, -1, 0, 0, 1, 1, 0)...))
		expect.Result(t, "Slip of a turn back around a grid that turns", n, e, -4, api.OK)
	}
}

func TestHeatIsDeliveredLeftOrSpilled(t *testing.T) {
	rnd := rand.New(rand.NewSource(24))
	for range 5000 {
		p, l := randomPlant(rnd, 60, 30), randomDay(rnd, rnd.Intn(9), 100, 30)
		d := randomDispatch(rnd, p, l)
		x, e := grid.CheckDispatch(p, l, d)
		expect.Err(t, "CheckDispatch", e, api.OK)
		levels, e := grid.Levels(p, l, d)
		expect.Err(t, "Levels", e, api.OK)
		in, out := p.Level, x.Left+x.Spilled
		for i, q := range l {
			in, out = in+q.Heat, out+d[i]
		}
		if in != out || levels[0] != p.Level || levels[len(l)] != x.Left || slices.Max(levels) > p.Storage || slices.Min(levels) < 0 {
			t.Fatalf("%v %v %v: %d came in, %d are there, with %v and the levels %v", p, l, d, in, out, x, levels)
		}
	}
}

// bestIncome returns the income of the best dispatch, which is checked.
func bestIncome(t *testing.T, p grid.Plant, l []grid.Quarter) int {
	t.Helper()
	d, x, e := grid.Dispatch(p, l)
	expect.Err(t, "Dispatch", e, api.OK)
	y, e := grid.CheckDispatch(p, l, d)
	expect.Result(t, "CheckDispatch of the best dispatch", y, e, x, api.OK)
	return x.Income
}

func TestNoDispatchHasAGreaterIncome(t *testing.T) {
	rnd := rand.New(rand.NewSource(25))
	tight := 0
	for range 1000 {
		p, l := randomPlant(rnd, pick(rnd, 5, 59), pick(rnd, 3, 30)), randomDay(rnd, rnd.Intn(9), pick(rnd, 3, 1000), pick(rnd, 3, 30))
		best := bestIncome(t, p, l)
		for range 20 {
			x, e := grid.CheckDispatch(p, l, randomDispatch(rnd, p, l))
			if e != api.OK || x.Income > best {
				t.Fatalf("%v %v: a dispatch has the income %d, error %d, and the best one %d", p, l, x.Income, e, best)
			}
			values := list(rnd, len(l), 0, pick(rnd, 3, 1000))
			if rnd.Intn(2) == 0 { // values that are mostly the same prove more
				values = slices.Repeat(ints(rnd.Intn(1000)), len(l))
			}
			n, e := grid.Bound(p, l, values)
			if e != api.OK || n < best {
				t.Fatalf("%v %v: the bound of %v is %d, error %d, and the best income %d", p, l, values, n, e, best)
			}
			if n == best {
				tight++
			}
		}
		wider := p
		wider.Storage = between(rnd, p.Storage, 60)
		if more := bestIncome(t, wider, l); more < best {
			t.Fatalf("%v %v: the best income is %d, and with the storage %d it is %d", p, l, best, wider.Storage, more)
		}
	}
	if tight < 100 {
		t.Errorf("only %d bounds were as great as the best income", tight)
	}
}

func TestNothingIsFinedThatWasDelivered(t *testing.T) {
	rnd := rand.New(rand.NewSource(26))
	for range 3000 {
		p, l := randomPlant(rnd, 60, 30), randomDay(rnd, rnd.Intn(9), 100000, 30)
		d, fine := randomDispatch(rnd, p, l), rnd.Intn(100001)
		x, e := grid.CheckDispatch(p, l, d)
		expect.Err(t, "CheckDispatch", e, api.OK)
		wantSettled(t, l, d, d, fine, x.Income, nil)
	}
}

func TestNoRoundIsShorter(t *testing.T) {
	rnd := rand.New(rand.NewSource(27))
	for range 1000 {
		d := randomStops(rnd, between(rnd, 1, 7), pick(rnd, 2, 30, 10000))
		best, length, e := grid.Route(d)
		expect.Err(t, "Route", e, api.OK)
		again, e := grid.Length(d, best)
		expect.Result(t, "Length of the shortest round", again, e, length, api.OK)
		bound, e := grid.Short(d)
		if e != api.OK || bound > length {
			t.Fatalf("%v: the short bound is %d, error %d, and the shortest round %d", d, bound, e, length)
		}
		for range 20 {
			round := randomRound(rnd, len(d))
			n, e := grid.Length(d, round)
			if e != api.OK || n < length || n == length && slices.Compare(round, best) < 0 {
				t.Fatalf("%v: the round %v has the length %d, error %d, and the shortest one, %v, %d", d, round, n, e, best, length)
			}
		}
	}
}

// TestAWashedMirrorLosesNothing checks it on one day, and that days can be taken one by one.
func TestAWashedMirrorLosesNothing(t *testing.T) {
	rnd := rand.New(rand.NewSource(28))
	for range 2000 {
		soil, rate := list(rnd, between(rnd, 1, 8), 0, 10000), rnd.Intn(3000)
		washed := randomDays(rnd, rnd.Intn(8), len(soil))
		left, sum := soil, 0
		for _, day := range washed {
			others := 0
			for mirror, n := range left {
				if !slices.Contains(day, mirror) {
					others += n
				}
			}
			after, lost, e := grid.Soiled(left, rate, [][]int{day})
			expect.Result(t, "Soiled on a day", lost, e, others, api.OK)
			left, sum = after, sum+lost
		}
		wantSoiled(t, soil, rate, washed, left, sum)
	}
}

func TestPlantsAreParsedAsTheyWerePrinted(t *testing.T) {
	rnd := rand.New(rand.NewSource(29))
	for range 2000 {
		p, l := randomPlant(rnd, 60, 30), randomDay(rnd, rnd.Intn(9), pick(rnd, 5, 100000), 30)
		s, e := grid.Print(p, l)
		expect.Err(t, "Print", e, api.OK)
		wantParsed(t, s, p, l, 0, api.OK)
		q, quarters, _, _ := grid.Parse(s)
		again, e := grid.Print(q, quarters)
		expect.Result(t, "Print of Parse", again, e, s, api.OK)
	}
}
