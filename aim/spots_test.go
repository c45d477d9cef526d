package aim_test

import (
	"math"
	"math/rand"
	"slices"
	"testing"

	"spillage/aim"
	"spillage/api"
	"spillage/expect"
)

// P5.1

func TestConstants(t *testing.T) {
	got := ints(aim.MaxTiles, aim.MaxLimit, aim.MaxSpot, aim.MaxAims, aim.MaxAim, aim.MaxWrong, aim.MaxMirrors, aim.MaxPrice, aim.MaxSteps, aim.MaxHeat, aim.None)
	expect.List(t, "the constants", got, api.OK, ints(8, 1000000, 8, 6, 100, 3, 32, 100000, 12, 1000, -1), api.OK)
}

func TestCheckReceiver(t *testing.T) {
	for _, r := range []aim.Receiver{shown(60), receiver(1, 1, 0), receiver(1, 1, 1000000), receiver(8, 1, flat(8, 0)...), receiver(1, 8, flat(8, 1000000)...), receiver(8, 8, flat(64, 7)...), receiver(2, 3, 1, 2, 3, 4, 5, 6)} {
		expect.Err(t, "CheckReceiver", aim.CheckReceiver(r), api.OK)
	}
	for _, x := range wrongReceivers() {
		if e := aim.CheckReceiver(x.x); e != x.e {
			t.Errorf("CheckReceiver of %d by %d and %d limits: error %d, want %d", x.x.Width, x.x.Height, len(x.x.Limits), e, x.e)
		}
	}
}

func TestCheckSpots(t *testing.T) {
	dark := aim.Spot{Name: "d", Map: table(1, 1, 0), Aims: points(5, 5)}
	dark.Map.Samples[0] = float32(math.Copysign(0, -1))
	for _, l := range [][]aim.Spot{nil, {}, spots(spotS()), spots(spotT(), spotS()), spots(greatest()), spots(dark), pixels(32, 16384), spots(spotS(), altered(func(x *aim.Spot) { x.Name = "S" }))} {
		for _, r := range []aim.Receiver{shown(60), receiver(1, 1, 0), receiver(8, 8, flat(64, 7)...)} {
			expect.Err(t, "CheckSpots", aim.CheckSpots(r, l), api.OK)
		}
	}
	for i, x := range wrongLists() {
		if e := aim.CheckSpots(shown(60), x.x); e != x.e {
			t.Errorf("CheckSpots of the wrong list %d: error %d, want %d", i, e, x.e)
		}
	}
}

// heats is the table of the chapter's example 6.
func heats() []aim.Step { return []aim.Step{{Heat: 100, Limit: 60}, {Heat: 200, Limit: 40}} }

// stairs returns a table of n steps.
func stairs(n int) []aim.Step {
	var l []aim.Step
	for i := range n {
		l = append(l, aim.Step{Heat: 10 * i, Limit: 100 - i})
	}
	return l
}

func TestLimits(t *testing.T) {
	for _, x := range []struct {
		table        []aim.Step
		heat, limits []int
	}{
		{heats(), ints(0, 100, 150, 201), ints(60, 60, 40, 0)}, {heats(), nil, nil}, {heats(), ints(1, 99, 101, 199, 200, 1000), ints(60, 60, 40, 40, 40, 0)}, {heats(), ints(300, 0, 300, 0), ints(0, 60, 0, 60)},
		{[]aim.Step{{Heat: 0, Limit: 1000000}}, ints(0, 1, 1000), ints(1000000, 0, 0)}, {[]aim.Step{{Heat: 1000, Limit: 0}}, ints(0, 1000), ints(0, 0)}, {[]aim.Step{{Heat: 0, Limit: 5}, {Heat: 1, Limit: 5}, {Heat: 1000, Limit: 5}}, ints(0, 1, 2, 1000), ints(5, 5, 5, 5)},
		{stairs(12), ints(0, 1, 10, 11, 109, 110, 111), ints(100, 99, 99, 98, 89, 89, 0)}, {stairs(1), flat(64, 0), flat(64, 100)}, {stairs(3), flat(64, 21), flat(64, 0)},
	} {
		l, e := aim.Limits(x.table, x.heat)
		expect.List(t, "Limits", l, e, x.limits, api.OK)
	}
}

func TestLimitsOfWrongTables(t *testing.T) {
	type steps = []aim.Step
	l := []wrong[steps]{
		{nil, api.ErrEmpty}, {steps{}, api.ErrEmpty}, {stairs(13), api.ErrMany}, {make(steps, 13), api.ErrMany}, {make(steps, 100000), api.ErrMany},
		{steps{{Heat: 100, Limit: 40}, {Heat: 200, Limit: 60}}, api.ErrOrder}, {steps{{Heat: 100, Limit: 40}, {Heat: 200, Limit: 41}}, api.ErrOrder}, {steps{{Heat: 100, Limit: 40}, {Heat: 100, Limit: 40}}, api.ErrOrder}, {steps{{Heat: 100, Limit: 40}, {Heat: 99, Limit: 30}}, api.ErrOrder}, {steps{{Heat: 100, Limit: 40}, {Heat: 99, Limit: 41}}, api.ErrOrder}, {steps{{Heat: 0}, {Heat: 0}}, api.ErrOrder},
		{steps{{Heat: 100, Limit: 40}, {Heat: 200, Limit: 30}, {Heat: 150, Limit: 30}}, api.ErrOrder}, {steps{{Heat: 100, Limit: 40}, {Heat: 200, Limit: 30}, {Heat: 300, Limit: 35}}, api.ErrOrder}, {steps{{Heat: 2}, {Heat: 1}, {Heat: 1001}}, api.ErrOrder}, {steps{{Heat: 2}, {Heat: 1}, {Limit: -1}}, api.ErrOrder},
	}
	for _, n := range expect.Outside(0, 1000) {
		l = append(l, wrong[steps]{steps{{Heat: n, Limit: 5}}, api.ErrRange}, wrong[steps]{steps{{Heat: 5, Limit: 5}, {Heat: n, Limit: 6}}, api.ErrRange}, wrong[steps]{steps{{Heat: n}, {Heat: 7, Limit: 5}, {Heat: 6}}, api.ErrRange})
	}
	for _, n := range expect.Outside(0, 1000000) {
		l = append(l, wrong[steps]{steps{{Heat: 5, Limit: n}}, api.ErrRange}, wrong[steps]{steps{{Heat: 5, Limit: 5}, {Heat: 5, Limit: n}}, api.ErrRange}, wrong[steps]{steps{{Heat: 5, Limit: 5}, {Heat: 6, Limit: n}}, api.ErrRange})
	}
	for _, x := range l {
		for _, heat := range [][]int{nil, ints(5), ints(-1), flat(65, 0)} {
			limits, e := aim.Limits(x.x, heat)
			expect.List(t, "Limits of a wrong table", limits, e, nil, x.e)
		}
	}
}

func TestLimitsAtWrongHeats(t *testing.T) {
	for _, heat := range [][]int{flat(65, 0), flat(65, -1), flat(100000, 1001)} {
		l, e := aim.Limits(heats(), heat)
		expect.List(t, "Limits at too many temperatures", l, e, nil, api.ErrMany)
	}
	for _, heat := range withBad(ints(0, 1000, 150), 1000) {
		l, e := aim.Limits(heats(), heat)
		expect.List(t, "Limits at a wrong temperature", l, e, nil, api.ErrRange)
	}
}

func TestExamplesOfSpots(t *testing.T) {
	for i, x := range []struct {
		r                     aim.Receiver
		s                     aim.Spot
		index                 int
		light, spilled, least int
		worst                 []int
	}{
		{shown(60), spotS(), 0, 48, 0, 48, ints(16, 32, 0)}, {shown(60), spotS(), 1, 48, 0, 48, ints(0, 16, 32)}, {shown(60), spotS(), 2, 16, 32, 16, ints(0, 0, 16)}, {shown(60), spotT(), 0, 24, 0, 0, ints(24, 24, 0)}, {shown(60), spotT(), 1, 24, 0, 0, ints(24, 24, 24)},
		{receiver(1, 1, 0), greatest(), 0, 0, 64 * 16384, 0, ints(0)}, {receiver(1, 1, 0), greatest(), 1, 0, 64 * 16384, 0, ints(0)}, {receiver(1, 1, 0), greatest(), 4, 16384, 63 * 16384, 0, ints(16384)}, {receiver(1, 1, 0), greatest(), 5, 16384, 63 * 16384, 16384, ints(16384)}, {receiver(8, 8, flat(64, 0)...), greatest(), 4, 64 * 16384, 0, 25 * 16384, flat(64, 16384)}, {receiver(8, 8, flat(64, 0)...), greatest(), 5, 25 * 16384, 39 * 16384, 4 * 16384, flat(64, 16384)},
		{receiver(2, 2, 9, 9, 9, 9), aim.Spot{Name: "u", Map: table(2, 2, 1, 2, 4, 8), Aims: points(1, 0, 0, -1, -1, -1, 2, 0)}, 0, 5, 10, 5, ints(0, 1, 0, 4)}, {receiver(2, 2, 9, 9, 9, 9), aim.Spot{Name: "u", Map: table(2, 2, 1, 2, 4, 8), Aims: points(1, 0, 0, -1, -1, -1, 2, 0)}, 1, 12, 3, 12, ints(4, 8, 0, 0)}, {receiver(2, 2, 9, 9, 9, 9), aim.Spot{Name: "u", Map: table(2, 2, 1, 2, 4, 8), Aims: points(1, 0, 0, -1, -1, -1, 2, 0)}, 2, 8, 7, 8, ints(8, 0, 0, 0)}, {receiver(2, 2, 9, 9, 9, 9), aim.Spot{Name: "u", Map: table(2, 2, 1, 2, 4, 8), Aims: points(1, 0, 0, -1, -1, -1, 2, 0)}, 3, 0, 15, 0, flat(4, 0)},
		{receiver(2, 2, 9, 9, 9, 9), aim.Spot{Name: "u", Map: table(2, 2, 1, 2, 4, 8), Aims: points(0, 0), Wrong: 1}, 0, 15, 0, 1, ints(8, 8, 8, 8)}, {receiver(2, 2, 9, 9, 9, 9), aim.Spot{Name: "u", Map: table(2, 2, 8, 4, 2, 1), Aims: points(0, 0), Wrong: 1}, 0, 15, 0, 1, ints(8, 8, 8, 8)}, {receiver(2, 2, 9, 9, 9, 9), aim.Spot{Name: "u", Map: table(2, 2, 8, 4, 2, 1), Aims: points(2, 1), Wrong: 1}, 0, 0, 15, 0, ints(0, 8, 0, 8)}, {shown(60), aim.Spot{Name: "d", Map: table(2, 1, 0, 0), Aims: points(0, 0), Wrong: 3}, 0, 0, 0, 0, flat(3, 0)},
	} {
		light, spilled, e := aim.Share(x.r, x.s, x.index)
		expect.List(t, "Share", ints(i, light, spilled), e, ints(i, x.light, x.spilled), api.OK)
		least, e := aim.Least(x.r, x.s, x.index)
		expect.List(t, "Least", ints(i, least), e, ints(i, x.least), api.OK)
		worst, e := aim.Worst(x.r, x.s, x.index)
		expect.List(t, "Worst", append(ints(i), worst...), e, append(ints(i), x.worst...), api.OK)
	}
}

func TestSpotsAsDefined(t *testing.T) {
	rnd := rand.New(rand.NewSource(81))
	counts := map[string]int{}
	for i := range 3000 {
		r := randomReceiver(rnd, 8, 1000000)
		x := randomSpot(rnd, "x", r, 8, []int{3, 16384}[i%2])
		index := rnd.Intn(len(x.Aims))
		given := sum(fluxOf(r, x, index, api.Point{}))
		light, spilled, e := aim.Share(r, x, index)
		expect.List(t, "Share", ints(light, spilled), e, ints(given, lightOf(x)-given), api.OK)
		least, e := aim.Least(r, x, index)
		expect.Result(t, "Least", least, e, leastOf(r, x, index), api.OK)
		worst, e := aim.Worst(r, x, index)
		expect.List(t, "Worst", worst, e, worstOf(r, x, index), api.OK)
		if 0 < least && least < light {
			counts["less"]++
		}
		if spilled > 0 && light > 0 {
			counts["both"]++
		}
		if x.Wrong == 3 && slices.Max(worst) > 0 {
			counts["wrong"]++
		}
	}
	if counts["less"] < 100 || counts["both"] < 1000 || counts["wrong"] < 200 {
		t.Errorf("the counts are %v", counts)
	}
}
