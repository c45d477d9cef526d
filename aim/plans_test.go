package aim_test

import (
	"math/rand"
	"testing"

	"spillage/aim"
	"spillage/api"
	"spillage/expect"
)

// P5.2

func TestExamplesOfPlans(t *testing.T) {
	standby := aim.None
	for i, x := range []struct {
		middle         int
		p              []int
		flux, peak     []int
		light, spilled int
		hot            int
	}{
		{60, ints(0, 0), ints(40, 32, 0), ints(40, 56, 0), 48, 0, -1}, {56, ints(0, 0), ints(40, 32, 0), ints(40, 56, 0), 48, 0, -1}, {55, ints(0, 0), ints(40, 32, 0), ints(40, 56, 0), 48, 0, 1}, {60, ints(1, 1), ints(0, 40, 32), ints(24, 40, 56), 48, 0, 2}, {39, ints(1, 1), ints(0, 40, 32), ints(24, 40, 56), 48, 0, 1},
		{60, ints(0, 1), ints(16, 56, 0), ints(40, 56, 24), 48, 0, -1}, {60, ints(2, standby), ints(0, 0, 16), ints(0, 0, 16), 16, 32, -1}, {60, ints(standby, 0), ints(24, 0, 0), ints(24, 24, 0), 0, 0, -1}, {0, ints(standby, standby), flat(3, 0), flat(3, 0), 0, 0, -1}, {0, ints(0, standby), ints(16, 32, 0), ints(16, 32, 0), 48, 0, 1}, {60, ints(2, 1), ints(0, 24, 16), ints(24, 24, 40), 16, 32, -1},
	} {
		r, l := shown(x.middle), spots(spotS(), spotT())
		flux, e := aim.Flux(r, l, x.p)
		expect.List(t, "Flux", append(ints(i), flux...), e, append(ints(i), x.flux...), api.OK)
		peak, e := aim.Peak(r, l, x.p)
		expect.List(t, "Peak", append(ints(i), peak...), e, append(ints(i), x.peak...), api.OK)
		light, e := aim.Light(r, l, x.p)
		expect.Result(t, "Light", light, e, x.light, api.OK)
		spilled, e := aim.Spilled(r, l, x.p)
		expect.Result(t, "Spilled", spilled, e, x.spilled, api.OK)
		wantHot(t, r, l, x.p, x.hot)
	}
}

// wantHot checks that the first tile that can be too hot has an index, or that none can be if it is -1.
func wantHot(t *testing.T, r aim.Receiver, l []aim.Spot, p []int, index int) {
	t.Helper()
	wanted, over, none := at(0, 0), api.OK, api.ErrNone
	if index >= 0 {
		wanted, over, none = at(index%r.Width, index/r.Width), api.ErrOver, api.OK
	}
	expect.Err(t, "CheckPlan", aim.CheckPlan(r, l, p), over)
	tile, e := aim.Exceeds(r, l, p)
	expect.Result(t, "Exceeds", tile, e, wanted, none)
}

func TestPlansOfNoMirrors(t *testing.T) {
	r := receiver(2, 2, 0, 0, 0, 0)
	for _, p := range [][]int{nil, {}} {
		flux, e := aim.Flux(r, nil, p)
		expect.List(t, "Flux of no mirrors", flux, e, flat(4, 0), api.OK)
		peak, e := aim.Peak(r, nil, p)
		expect.List(t, "Peak of no mirrors", peak, e, flat(4, 0), api.OK)
		light, e := aim.Light(r, nil, p)
		expect.Result(t, "Light of no mirrors", light, e, 0, api.OK)
		spilled, e := aim.Spilled(r, nil, p)
		expect.Result(t, "Spilled of no mirrors", spilled, e, 0, api.OK)
		wantHot(t, r, nil, p, -1)
	}
}

// TestTheFirstHotTileIsFoundByRows checks receivers on which several tiles can be too hot.
func TestTheFirstHotTileIsFoundByRows(t *testing.T) {
	wide := aim.Spot{Name: "w", Map: table(4, 3, 1, 2, 3, 4, 5, 6, 7, 8, 9, 10, 11, 12), Aims: points(0, 0)}
	for i, limits := range [][]int{
		{0, 9, 9, 9, 9, 9, 9, 9, 9, 9, 0, 0}, {9, 9, 9, 3, 0, 9, 9, 9, 9, 9, 9, 9}, {9, 9, 9, 9, 4, 9, 9, 9, 0, 9, 9, 9}, {9, 9, 9, 9, 9, 9, 9, 7, 9, 0, 0, 0}, {12, 12, 12, 12, 12, 12, 12, 12, 12, 12, 10, 12}, {12, 12, 12, 12, 12, 12, 12, 12, 12, 12, 12, 11}, {12, 12, 12, 12, 12, 12, 12, 12, 12, 12, 12, 12}, {1, 2, 3, 4, 5, 6, 7, 8, 9, 10, 11, 12},
	} {
		wantHot(t, receiver(4, 3, limits...), spots(wide), ints(0), ints(0, 3, 4, 7, 10, 11, -1, -1)[i])
	}
}

func TestGreatestPlans(t *testing.T) {
	l, r := pixels(32, 0), receiver(8, 8, flat(64, 524287)...)
	for i := range l {
		l[i].Map, l[i].Aims, l[i].Wrong = greatest().Map, points(0, 0, 100, 100), 3
	}
	peak, e := aim.Peak(r, l, flat(32, 0))
	expect.List(t, "Peak", peak, e, flat(64, 32*16384), api.OK)
	flux, e := aim.Flux(r, l, flat(32, 0))
	expect.List(t, "Flux", flux, e, flat(64, 32*16384), api.OK)
	light, e := aim.Light(r, l, flat(32, 0))
	expect.Result(t, "Light", light, e, 32*25*16384, api.OK)
	spilled, e := aim.Spilled(r, l, flat(32, 1))
	expect.Result(t, "Spilled", spilled, e, 32*64*16384, api.OK)
	wantHot(t, r, l, flat(32, 0), 0)
	r.Limits[0] = 524288
	wantHot(t, r, l, flat(32, 0), 1)
	r.Limits = flat(64, 524288)
	wantHot(t, r, l, flat(32, 0), -1)
}

func TestPlansAsDefined(t *testing.T) {
	rnd := rand.New(rand.NewSource(82))
	counts := map[bool]int{}
	for range 1500 {
		r := randomReceiver(rnd, 5, 300)
		l := randomSpots(rnd, rnd.Intn(6), r, 5, 60)
		p := randomPlan(rnd, l)
		flux, e := aim.Flux(r, l, p)
		expect.List(t, "Flux", flux, e, totalFlux(r, l, p), api.OK)
		peak, e := aim.Peak(r, l, p)
		expect.List(t, "Peak", peak, e, totalPeak(r, l, p), api.OK)
		light, e := aim.Light(r, l, p)
		expect.Result(t, "Light", light, e, totalLight(r, l, p), api.OK)
		spilled, e := aim.Spilled(r, l, p)
		expect.Result(t, "Spilled", spilled, e, totalSpilled(r, l, p), api.OK)
		wantHot(t, r, l, p, hotTile(r, l, p))
		counts[isRight(r, l, p)]++
	}
	if counts[true] < 200 || counts[false] < 200 {
		t.Errorf("the counts are %v", counts)
	}
}
