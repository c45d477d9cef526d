package aim_test

import (
	"math/rand"
	"slices"
	"testing"

	"spillage/aim"
	"spillage/api"
	"spillage/expect"
	"spillage/light"
)

// P5.6, and P6 of the whole document

func TestASpotGivesAndSpillsItsLight(t *testing.T) {
	rnd := rand.New(rand.NewSource(86))
	for range 1000 {
		r := randomReceiver(rnd, 8, 9)
		x := randomSpot(rnd, "x", r, 8, 16384)
		all, e := light.Total(x.Map)
		expect.Err(t, "Total", e, api.OK)
		for index := range x.Aims {
			given, spilled, e := aim.Share(r, x, index)
			expect.Result(t, "Share", given+spilled, e, all, api.OK)
			least, e := aim.Least(r, x, index)
			if least > given || given < 0 || spilled < 0 || e != api.OK {
				t.Fatalf("%v at the aim %d gives %d, at least %d, and spills %d", x, index, given, least, spilled)
			}
		}
	}
}

// TestNoErrorGivesMoreThanThePeak checks also that an error gives as much: the peak of each tile, and the light of the plan.
func TestNoErrorGivesMoreThanThePeak(t *testing.T) {
	rnd := rand.New(rand.NewSource(87))
	for range 400 {
		r := randomReceiver(rnd, 5, 9)
		l := randomSpots(rnd, between(rnd, 1, 6), r, 5, 60)
		p := randomPlan(rnd, l)
		peak, e := aim.Peak(r, l, p)
		expect.Err(t, "Peak", e, api.OK)
		sure, e := aim.Light(r, l, p)
		expect.Err(t, "Light", e, api.OK)
		for range 20 {
			got := totals(r, l, p, func(r aim.Receiver, x aim.Spot, index int) []int {
				return fluxOf(r, x, index, at(between(rnd, -x.Wrong, x.Wrong), between(rnd, -x.Wrong, x.Wrong)))
			})
			for tile, n := range got {
				if n > peak[tile] {
					t.Fatalf("%v: the tile %d gets %d, above its peak %d", l, tile, n, peak[tile])
				}
			}
			if sum(got) < sure {
				t.Fatalf("%v: the receiver gets %d, less than %d", l, sum(got), sure)
			}
		}
		wantWorstCases(t, r, l, p, peak, sure)
	}
}

// wantWorstCases lets each spot take the shift that gives most to a tile, and least to all tiles.
func wantWorstCases(t *testing.T, r aim.Receiver, l []aim.Spot, p, peak []int, sure int) {
	t.Helper()
	for tile, n := range peak {
		worst := totals(r, l, p, func(r aim.Receiver, x aim.Spot, index int) []int {
			shift := slices.MaxFunc(shiftsOf(x), func(a, b api.Point) int { return fluxOf(r, x, index, a)[tile] - fluxOf(r, x, index, b)[tile] })
			return fluxOf(r, x, index, shift)
		})
		if worst[tile] != n {
			t.Fatalf("%v: the tile %d gets %d, and its peak is %d", l, tile, worst[tile], n)
		}
	}
	least := totals(r, l, p, func(r aim.Receiver, x aim.Spot, index int) []int {
		shift := slices.MinFunc(shiftsOf(x), func(a, b api.Point) int { return sum(fluxOf(r, x, index, a)) - sum(fluxOf(r, x, index, b)) })
		return fluxOf(r, x, index, shift)
	})
	if sum(least) != sure {
		t.Fatalf("%v: the receiver gets %d, and the plan's light is %d", l, sum(least), sure)
	}
}

func TestNoRightPlanHasMoreLight(t *testing.T) {
	rnd := rand.New(rand.NewSource(88))
	right := 0
	for range 300 {
		r := randomReceiver(rnd, 8, 200)
		l := randomSpots(rnd, between(rnd, 1, 8), r, 6, 60)
		best, e := aim.Plan(r, l)
		expect.Err(t, "Plan", e, api.OK)
		expect.Err(t, "CheckPlan of the best plan", aim.CheckPlan(r, l, best), api.OK)
		most, e := aim.Light(r, l, best)
		expect.Err(t, "Light", e, api.OK)
		for range 50 {
			p := randomPlan(rnd, l)
			for i := range p {
				if rnd.Intn(3) > 0 {
					p[i] = aim.None
				}
			}
			prices := randomPrices(rnd, r, 2000)
			bound, e := aim.Bound(r, l, prices)
			if bound < 1000*most || e != api.OK {
				t.Fatalf("%v: the bound %d of the prices %v is below the light %d, error %d", l, bound, prices, most, e)
			}
			gap, e := aim.Gap(r, l, best, prices)
			expect.Result(t, "Gap", gap, e, bound-1000*most, api.OK)
			if aim.CheckPlan(r, l, p) != api.OK {
				continue
			}
			right++
			n, e := aim.Light(r, l, p)
			if n > most || e != api.OK {
				t.Fatalf("%v: the right plan %v has the light %d, and the best one %v %d", l, p, n, best, most)
			}
		}
	}
	if right < 1000 {
		t.Errorf("only %d plans were right", right)
	}
}

func TestNoMirrorLeavesInVain(t *testing.T) {
	rnd := rand.New(rand.NewSource(89))
	left := 0
	for range 800 {
		r := randomReceiver(rnd, 5, 150)
		l := randomSpots(rnd, between(rnd, 1, 9), r, 5, 60)
		p := randomPlan(rnd, l)
		mirrors, e := aim.Released(r, l, p)
		expect.Err(t, "Released", e, api.OK)
		for _, mirror := range mirrors {
			tile, e := aim.Exceeds(r, l, p)
			expect.Err(t, "Exceeds before a mirror leaves", e, api.OK)
			before, e := aim.Peak(r, l, p)
			expect.Err(t, "Peak", e, api.OK)
			p = put(p, mirror, aim.None)
			after, e := aim.Peak(r, l, p)
			expect.Err(t, "Peak", e, api.OK)
			if i := tile.Y*r.Width + tile.X; after[i] >= before[i] {
				t.Fatalf("%v: the mirror %d leaves in vain", l, mirror)
			}
			left++
		}
		expect.Err(t, "CheckPlan of what was left", aim.CheckPlan(r, l, p), api.OK)
	}
	if left < 500 {
		t.Errorf("only %d mirrors left", left)
	}
}

func TestPlansOnTheWayAreRight(t *testing.T) {
	rnd := rand.New(rand.NewSource(90))
	steps := 0
	for range 2000 {
		r, l, a, b := randomWay(rnd)
		order, e := aim.Steps(r, l, a, b)
		if e != api.OK {
			continue
		}
		expect.Err(t, "CheckSteps of Steps", aim.CheckSteps(r, l, a, b, order), api.OK)
		way := a
		for _, mirror := range order {
			expect.Err(t, "CheckPlan while a mirror moves", aim.CheckPlan(r, l, put(way, mirror, aim.None)), api.OK)
			way = put(way, mirror, b[mirror])
			expect.Err(t, "CheckPlan on the way", aim.CheckPlan(r, l, way), api.OK)
			steps++
		}
		expect.List(t, "the last plan on the way", way, api.OK, b, api.OK)
		mirrors, e := aim.Differences(l, a, b)
		slices.Sort(order)
		expect.List(t, "Differences", mirrors, e, order, api.OK)
	}
	if steps < 500 {
		t.Errorf("only %d steps were right", steps)
	}
}

func TestLowerLimitsMakeNoPlanRight(t *testing.T) {
	rnd := rand.New(rand.NewSource(91))
	for range 1000 {
		r := randomReceiver(rnd, 4, 150)
		l := randomSpots(rnd, between(rnd, 1, 5), r, 4, 60)
		p := randomPlan(rnd, l)
		lower := r
		lower.Limits = nil
		for _, n := range r.Limits {
			lower.Limits = append(lower.Limits, between(rnd, n/2, n))
		}
		before, after := aim.CheckPlan(r, l, p), aim.CheckPlan(lower, l, p)
		if before != api.OK && after == api.OK {
			t.Fatalf("%v: lower limits make the plan %v right", l, p)
		}
		best, _ := aim.Plan(r, l)
		most, _ := aim.Light(r, l, best)
		best, _ = aim.Plan(lower, l)
		if n, _ := aim.Light(lower, l, best); n > most {
			t.Fatalf("%v: lower limits give the light %d, above %d", l, n, most)
		}
	}
}

func TestPlansComeBack(t *testing.T) {
	rnd := rand.New(rand.NewSource(92))
	for range 1000 {
		l := randomSpots(rnd, rnd.Intn(33), receiver(8, 8), 2, 9)
		for i := range l {
			l[i].Aims[0] = at(between(rnd, -100, -50), between(rnd, 50, 100))
		}
		p := randomPlan(rnd, l)
		text, e := aim.Print(l, p)
		expect.Err(t, "Print", e, api.OK)
		wantPlan(t, l, text, p, 0, api.OK)
	}
}
