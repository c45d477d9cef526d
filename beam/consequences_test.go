package beam_test

import (
	"math/rand"
	"slices"
	"testing"

	"spillage/api"
	"spillage/beam"
	"spillage/expect"
)

// P6.6, and P7 of the whole document

func TestNoWayIsShorterThanTheLeastOne(t *testing.T) {
	rnd := rand.New(rand.NewSource(99))
	walks := 0
	for range 1500 {
		g := netOf(randomGrid(rnd, between(rnd, 2, 16)))
		from, to := rnd.Intn(len(g.Stations)), rnd.Intn(len(g.Stations))
		way, steps, e := beam.Way(g.Grid, from, to)
		back, backSteps, f := beam.Way(g.Grid, to, from)
		if e != api.OK {
			if f == api.OK {
				t.Fatalf("%v: there is a way from %d to %d alone", g.Grid, to, from)
			}
			continue
		}
		if steps != backSteps || len(way) != len(back) || f != api.OK {
			t.Fatalf("%v: the way %v has %d steps, and the way back %v %d", g.Grid, way, steps, back, backSteps)
		}
		n, e := beam.Steps(g.Grid, way)
		expect.Result(t, "Steps of Way", n, e, steps, api.OK)
		for range 30 {
			walk := append(ints(from), randomWalk(rnd, g, from, between(rnd, 0, 8))...)
			n, e := beam.Steps(g.Grid, walk)
			expect.Err(t, "Steps of a walk", e, api.OK)
			_, least, e := beam.Way(g.Grid, from, walk[len(walk)-1])
			if n < least || e != api.OK {
				t.Fatalf("%v: the walk %v has %d steps, and the least way %d, error %d", g.Grid, walk, n, least, e)
			}
			walks++
		}
	}
	if walks < 2000 {
		t.Errorf("there were only %d walks", walks)
	}
}

func TestThereIsAWayOrABarrier(t *testing.T) {
	rnd := rand.New(rand.NewSource(100))
	counts := map[api.Errno]int{}
	for range 3000 {
		g := randomGrid(rnd, between(rnd, 2, 16))
		from, to := rnd.Intn(len(g.Stations)), rnd.Intn(len(g.Stations))
		_, _, e := beam.Way(g, from, to)
		set, f := beam.Barrier(g, from, to)
		counts[e]++
		switch e {
		case api.OK:
			expect.Err(t, "Barrier beside a way", f, api.ErrRule)
			for range 20 {
				expect.Err(t, "CheckBarrier beside a way", beam.CheckBarrier(g, from, to, randomSet(rnd, len(g.Stations))), api.ErrProof)
			}
		case api.ErrNone:
			expect.Err(t, "Barrier without a way", f, api.OK)
			expect.Err(t, "CheckBarrier of Barrier", beam.CheckBarrier(g, from, to, set), api.OK)
			wantNoLessBarrier(t, rnd, g, from, to, set)
		default:
			expect.Err(t, "Barrier", f, e)
		}
	}
	if counts[api.OK] < 500 || counts[api.ErrNone] < 200 {
		t.Errorf("the counts are %v", counts)
	}
}

// randomSet returns an ascending list of indices below n.
func randomSet(rnd *rand.Rand, n int) []int {
	set := rnd.Perm(n)[:rnd.Intn(n+1)]
	slices.Sort(set)
	return set
}

// wantNoLessBarrier checks that a set is a barrier no longer if one of its stations is taken away.
func wantNoLessBarrier(t *testing.T, rnd *rand.Rand, g beam.Grid, from, to int, set []int) {
	t.Helper()
	i := rnd.Intn(len(set))
	less := slices.Delete(slices.Clone(set), i, i+1)
	expect.Err(t, "CheckBarrier of a part of Barrier", beam.CheckBarrier(g, from, to, less), api.ErrProof)
}

func TestAZoneThatIsTakenAwayMakesNoWayLonger(t *testing.T) {
	rnd := rand.New(rand.NewSource(101))
	shorter, found := 0, 0
	for range 4000 {
		g := randomGrid(rnd, between(rnd, 2, 12))
		if len(g.Zones) == 0 {
			continue
		}
		from, to := rnd.Intn(len(g.Stations)), rnd.Intn(len(g.Stations))
		_, before, e := beam.Way(g, from, to)
		open := altered(g, func(g *beam.Grid) { i := rnd.Intn(len(g.Zones)); g.Zones = slices.Delete(g.Zones, i, i+1) })
		_, after, f := beam.Way(open, from, to)
		if e == api.OK && (f != api.OK || after > before) {
			t.Fatalf("%v: a way of %d steps has %d without a zone, error %d", g, before, after, f)
		}
		if e == api.OK && after < before {
			shorter++
		}
		if e != api.OK && f == api.OK {
			found++
		}
	}
	if shorter < 20 || found < 100 {
		t.Errorf("%d ways were shorter, and %d found", shorter, found)
	}
}

// wantSafe checks that each mirror stands at a safe station, or goes on a safe move.
func wantSafe(t *testing.T, g beam.Grid, f beam.Field) {
	t.Helper()
	expect.Err(t, "CheckField", beam.CheckField(g, f), api.OK)
	for _, m := range f.Mirrors {
		line := [2]api.Point{g.Stations[m.At].Place, g.Stations[turnOf(m)].Place}
		for _, z := range g.Zones {
			is, e := beam.Touches(z, g.Blur, line)
			expect.Result(t, "Touches", is, e, false, api.OK)
		}
		if len(m.Way) == 0 {
			continue
		}
		joined := slices.ContainsFunc(g.Moves, func(x beam.Move) bool {
			return x.From == min(m.At, m.Way[0]) && x.To == max(m.At, m.Way[0]) && m.Left <= x.Steps
		})
		if !joined || m.Left < 1 {
			t.Errorf("%v: the mirror %v goes on no move", g, m)
		}
	}
}

// TestAllBeamsAreSafeInAllRounds runs rounds, one after the other, of which each order may be lost.
func TestAllBeamsAreSafeInAllRounds(t *testing.T) {
	rnd := rand.New(rand.NewSource(102))
	moving := 0
	for range 400 {
		g := netOf(randomGrid(rnd, between(rnd, 2, 12)))
		f := randomField(rnd, g, between(rnd, 1, 5))
		begin := f
		var rounds [][]beam.Order
		for range 30 {
			rounds = append(rounds, randomOrders(rnd, g, rnd.Intn(4)))
			next, e := beam.Run(g.Grid, f, rounds[len(rounds)-1:])
			expect.Err(t, "Run of a round", e, api.OK)
			if next.Tick != f.Tick+1 || len(next.Mirrors) != len(f.Mirrors) {
				t.Fatalf("%v becomes %v", f, next)
			}
			f = next
			wantSafe(t, g.Grid, f)
			for _, m := range f.Mirrors {
				if len(m.Way) > 0 {
					moving++
				}
			}
		}
		last, e := beam.Run(g.Grid, begin, rounds)
		wantField(t, "Run of all rounds", last, e, f, api.OK)
	}
	if moving < 1000 {
		t.Errorf("only %d mirrors moved", moving)
	}
}

// longestWait returns the lease and the most steps that a mirror can still take: those of its way, and of the way home from a station of it.
func longestWait(g net, f beam.Field) int {
	longest := 0
	for _, m := range f.Mirrors {
		steps := stepsOf(g, append(ints(m.At), m.Way...))
		for _, station := range append(ints(m.At), m.Way...) {
			_, home := leastWay(g, station, homeOf(g, station))
			longest = max(longest, steps+home)
		}
	}
	return f.Lease + longest
}

func TestTheFieldIsDarkAfterItsDeadline(t *testing.T) {
	rnd := rand.New(rand.NewSource(103))
	waited := 0
	for range 600 {
		g := netOf(randomGrid(rnd, between(rnd, 2, 6)))
		f := randomField(rnd, g, between(rnd, 1, 5))
		deadline, e := beam.Deadline(g.Grid, f)
		if most := longestWait(g, f); deadline > most || e != api.OK {
			t.Fatalf("%v %v: the deadline is %d, above %d, error %d", g.Grid, f, deadline, most, e)
		}
		for n := range deadline + 20 {
			dark, e := beam.Dark(g.Grid, f)
			if dark != (n >= deadline) || e != api.OK {
				t.Fatalf("%v %v: Dark after %d steps is %v, and the deadline %d", g.Grid, f, n, dark, deadline)
			}
			left, e := beam.Deadline(g.Grid, f)
			expect.Result(t, "Deadline", left, e, max(deadline-n, 0), api.OK)
			lit, e := beam.Lit(g.Grid, f)
			if dark && len(lit) > 0 || e != api.OK {
				t.Fatalf("%v: %v are lit in the dark", f, lit)
			}
			f, e = beam.Stepped(g.Grid, f)
			expect.Err(t, "Stepped", e, api.OK)
		}
		waited += min(deadline, 1)
	}
	if waited < 200 {
		t.Errorf("only %d fields had to wait", waited)
	}
}

// TestADefocusedSectorIsBoundForStandby checks also that it stays so without orders, and that the others do not change.
func TestADefocusedSectorIsBoundForStandby(t *testing.T) {
	rnd := rand.New(rand.NewSource(104))
	bound := 0
	for range 600 {
		g := netOf(randomGrid(rnd, between(rnd, 2, 10)))
		f := randomField(rnd, g, between(rnd, 1, 5))
		after, e := beam.Defocused(g.Grid, f, "n")
		if e != api.OK {
			continue
		}
		wantSafe(t, g.Grid, after)
		for i, m := range after.Mirrors {
			if m.Sector == "n" && g.Stations[endOf(m)].Kind != "standby" || m.Sector != "n" && !sameMirror(m, f.Mirrors[i]) {
				t.Fatalf("%v: %v becomes %v", g.Grid, f, after)
			}
			bound++
		}
		for range 300 {
			after, e = beam.Stepped(g.Grid, after)
			expect.Err(t, "Stepped", e, api.OK)
		}
		for _, m := range after.Mirrors {
			if m.Sector == "n" && (len(m.Way) > 0 || g.Stations[m.At].Kind != "standby") {
				t.Fatalf("%v: %v is not on standby", g.Grid, m)
			}
		}
	}
	if bound < 300 {
		t.Errorf("only %d mirrors were bound for standby", bound)
	}
}

// TestAMirrorGoesWhereItIsLed checks that a mirror that hears an order is bound for its station, and arrives if it hears on.
func TestAMirrorGoesWhereItIsLed(t *testing.T) {
	rnd := rand.New(rand.NewSource(105))
	arrived := 0
	for range 600 {
		g := netOf(randomGrid(rnd, between(rnd, 2, 8)))
		f := randomField(rnd, g, 1)
		to := rnd.Intn(len(g.Stations))
		o := order("m0", g.Stations[to].Name)
		after, e := beam.Heard(g.Grid, f, o)
		if e != api.OK {
			continue
		}
		if m := after.Mirrors[0]; endOf(m) != to || m.Heard != f.Tick {
			t.Fatalf("%v: %v is led to %d and becomes %v", g.Grid, f, to, m)
		}
		last, e := beam.Run(g.Grid, after, slices.Repeat([][]beam.Order{{o}}, 256))
		if m := last.Mirrors[0]; m.At != to || len(m.Way) > 0 || e != api.OK {
			t.Fatalf("%v: %v is not at %d, error %d", g.Grid, m, to, e)
		}
		arrived++
	}
	if arrived < 100 {
		t.Errorf("only %d mirrors arrived", arrived)
	}
}

func TestGridsComeBack(t *testing.T) {
	rnd := rand.New(rand.NewSource(106))
	for range 2000 {
		g := randomGrid(rnd, between(rnd, 0, 16))
		text, e := beam.Print(g)
		expect.Err(t, "Print", e, api.OK)
		wantGrid(t, text, g, 0, api.OK)
	}
}
