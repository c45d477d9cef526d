package aim_test

import (
	"math/rand"
	"slices"
	"testing"

	"spillage/aim"
	"spillage/api"
	"spillage/expect"
)

// P5.4

func TestExamplesOfReleases(t *testing.T) {
	standby := aim.None
	pairs := spots(pixel("a", 10), pixel("b", 20), pixel("c", 20), pixel("d", 5))
	for i, x := range []struct {
		r          aim.Receiver
		l          []aim.Spot
		p, mirrors []int
	}{
		{shown(60), spots(spotS(), spotT()), ints(1, 1), ints(0)}, {shown(20), spots(spotS(), spotT()), ints(0, 0), ints(0, 1)}, {shown(60), spots(spotS(), spotT()), ints(0, 0), nil}, {shown(0), spots(spotS(), spotT()), ints(standby, standby), nil}, {shown(0), spots(spotS(), spotT()), ints(standby, 0), ints(1)}, {shown(0), nil, nil, nil}, {shown(55), spots(spotT(), spotS()), ints(0, 0), ints(1)},
		{receiver(1, 1, 54), pairs, flat(4, 0), ints(1)}, {receiver(1, 1, 55), pairs, flat(4, 0), nil}, {receiver(1, 1, 34), pairs, flat(4, 0), ints(1, 2)}, {receiver(1, 1, 14), pairs, flat(4, 0), ints(1, 2, 0)}, {receiver(1, 1, 4), pairs, flat(4, 0), ints(1, 2, 0, 3)}, {receiver(1, 1, 0), pairs, ints(0, standby, 0, 0), ints(2, 0, 3)},
		{receiver(2, 1, 29, 24), pairs, ints(0, 0, 1, 1), ints(1, 2)}, {receiver(2, 1, 30, 19), pairs, ints(0, 0, 1, 1), ints(2)}, {receiver(2, 1, 9, 4), pairs, ints(1, 0, 0, 1), ints(1, 2, 0, 3)}, {receiver(1, 2, 9, 4), spots(pixel("a", 10), aim.Spot{Name: "v", Map: table(1, 2, 9, 12), Aims: points(0, 0)}), ints(0, 0), ints(0, 1)}, {receiver(1, 2, 18, 11), spots(pixel("a", 10), aim.Spot{Name: "v", Map: table(1, 2, 9, 12), Aims: points(0, 0)}), ints(0, 0), ints(0, 1)}, {receiver(1, 2, 19, 11), spots(pixel("a", 10), aim.Spot{Name: "v", Map: table(1, 2, 9, 12), Aims: points(0, 0)}), ints(0, 0), ints(1)},
	} {
		l, e := aim.Released(x.r, x.l, x.p)
		expect.List(t, "Released", append(ints(i), l...), e, append(ints(i), x.mirrors...), api.OK)
	}
	all, e := aim.Released(receiver(1, 1, 0), pixels(32, 1), flat(32, 0))
	if len(all) != 32 || all[31] != 31 || e != api.OK {
		t.Errorf("Released of all mirrors: %v, error %d", all, e)
	}
}

// exchange returns two mirrors that fill a tile each, of two tiles.
func exchange() (aim.Receiver, []aim.Spot) {
	return receiver(2, 1, 40, 40), spots(pixel("a", 32), pixel("b", 32))
}

func TestExamplesOfSteps(t *testing.T) {
	standby := aim.None
	two, pair := exchange()
	for i, x := range []struct {
		r           aim.Receiver
		l           []aim.Spot
		a, b, order []int
		e           api.Errno
	}{
		{shown(60), spots(spotS(), spotT()), ints(0, standby), ints(1, 0), ints(0, 1), api.OK}, {shown(40), spots(spotS(), spotT()), ints(0, standby), ints(1, 0), ints(0, 1), api.OK}, {shown(40), spots(spotS(), spotT()), ints(1, 0), ints(0, standby), ints(1, 0), api.OK}, {shown(60), spots(spotS(), spotT()), ints(0, 0), ints(0, 0), nil, api.OK}, {shown(60), spots(spotS(), spotT()), ints(2, 0), ints(0, 0), ints(0), api.OK}, {shown(60), spots(spotS(), spotT()), ints(0, 0), ints(0, standby), ints(1), api.OK}, {shown(60), nil, nil, nil, nil, api.OK},
		{two, pair, ints(0, 1), ints(1, 0), nil, api.ErrInfeasible}, {two, pair, ints(0, standby), ints(1, 0), ints(0, 1), api.OK}, {two, pair, ints(standby, 0), ints(0, 1), ints(1, 0), api.OK}, {two, pair, ints(0, 1), ints(standby, 0), ints(0, 1), api.OK}, {receiver(2, 1, 64, 40), pair, ints(0, 1), ints(1, 0), ints(1, 0), api.OK}, {receiver(2, 1, 40, 64), pair, ints(0, 1), ints(1, 0), ints(0, 1), api.OK},
		{receiver(2, 1, 40, 40), pair, ints(0, 0), ints(1, 0), nil, api.ErrOver}, {receiver(2, 1, 40, 40), pair, ints(1, 0), ints(0, 0), nil, api.ErrOver}, {receiver(2, 1, 40, 40), pair, ints(0, 0), ints(0, 0), nil, api.ErrOver}, {receiver(2, 1, 40, 40), pair, ints(0, 0), ints(1, 1), nil, api.ErrOver},
		{receiver(4, 1, flat(4, 10)...), pixels(3, 10), ints(0, 1, 2), ints(1, 2, 3), ints(2, 1, 0), api.OK}, {receiver(4, 1, flat(4, 10)...), pixels(3, 10), ints(0, 1, 2), ints(3, 0, 1), ints(0, 1, 2), api.OK}, {receiver(4, 1, flat(4, 10)...), pixels(3, 10), ints(0, 1, 2), ints(1, 0, 2), nil, api.ErrInfeasible}, {receiver(4, 1, flat(4, 10)...), pixels(3, 10), ints(0, 1, 2), ints(1, 0, 3), nil, api.ErrInfeasible}, {receiver(4, 1, flat(4, 10)...), pixels(4, 10), ints(0, 1, 2, standby), ints(3, 2, standby, 0), ints(0, 2, 1, 3), api.OK},
	} {
		order, e := aim.Steps(x.r, x.l, x.a, x.b)
		expect.List(t, "Steps", append(ints(i), order...), e, append(ints(i), x.order...), x.e)
	}
}

// TestStepsOfManyMirrors checks that eight mirrors may move, beside others that stay.
func TestStepsOfManyMirrors(t *testing.T) {
	loose, stay := receiver(6, 1, flat(6, 1000)...), flat(32, 0)
	move := func(n int) []int { return append(flat(n, 1), flat(32-n, 0)...) }
	order, e := aim.Steps(loose, pixels(32, 1), stay, move(8))
	expect.List(t, "Steps of eight mirrors", order, e, ints(0, 1, 2, 3, 4, 5, 6, 7), api.OK)
	for _, n := range ints(9, 10, 32) {
		order, e = aim.Steps(loose, pixels(32, 1), stay, move(n))
		expect.List(t, "Steps of too many mirrors", order, e, nil, api.ErrLimit)
	}
	last := append(flat(31, 0), 1)
	order, e = aim.Steps(loose, pixels(32, 1), stay, last)
	expect.List(t, "Steps of the last mirror", order, e, ints(31), api.OK)
	tight := receiver(6, 1, 1000, 8, 0, 0, 0, 0)
	order, e = aim.Steps(tight, pixels(32, 1), stay, move(9))
	expect.List(t, "Steps of too many mirrors to a plan that is not right", order, e, nil, api.ErrOver)
	order, e = aim.Steps(tight, pixels(32, 1), move(9), stay)
	expect.List(t, "Steps of too many mirrors from a plan that is not right", order, e, nil, api.ErrOver)
	full := receiver(2, 1, 160, 160)
	order, e = aim.Steps(full, pixels(32, 10), append(flat(16, 0), flat(16, 1)...), append(flat(16, 1), flat(16, 0)...))
	expect.List(t, "Steps of too many mirrors without an order", order, e, nil, api.ErrLimit)
	half := append(flat(4, 0), flat(4, 1)...)
	order, e = aim.Steps(receiver(2, 1, 40, 40), pixels(8, 10), half, append(flat(4, 1), flat(4, 0)...))
	expect.List(t, "Steps of eight mirrors without an order", order, e, nil, api.ErrInfeasible)
}

// TestStepsOfTheLastOrder checks that the last one of all orders is found, if it is the only right one.
func TestStepsOfTheLastOrder(t *testing.T) {
	l := pixels(8, 10)
	var a, b []int
	for i := range l {
		l[i].Aims = points(i%8, i/8, (i+1)%8, (i+1)/8)
		a, b = append(a, 0), append(b, 1)
	}
	order, e := aim.Steps(receiver(8, 2, flat(16, 10)...), l, a, b)
	expect.List(t, "Steps in the last order", order, e, ints(7, 6, 5, 4, 3, 2, 1, 0), api.OK)
}

func TestExamplesOfCheckSteps(t *testing.T) {
	l, a, b := spots(spotS(), spotT()), ints(0, aim.None), ints(1, 0)
	for i, x := range []struct {
		r           aim.Receiver
		a, b, order []int
		e           api.Errno
	}{
		{shown(60), a, b, ints(0, 1), api.OK}, {shown(60), a, b, ints(1, 0), api.OK}, {shown(40), a, b, ints(0, 1), api.OK}, {shown(40), a, b, ints(1, 0), api.ErrOver}, {shown(40), a, b, ints(1), api.ErrOver}, {shown(40), a, b, ints(1, 1), api.ErrOver}, {shown(40), a, b, ints(1, 9), api.ErrOver}, {shown(55), a, b, ints(1, 0), api.ErrOver}, {shown(56), a, b, ints(1, 0), api.OK},
		{shown(60), a, b, nil, api.ErrShort}, {shown(60), a, b, ints(0), api.ErrShort}, {shown(60), a, b, ints(1), api.ErrShort}, {shown(60), a, b, ints(0, 0), api.ErrTwice}, {shown(60), a, b, ints(0, 1, 0), api.ErrTwice}, {shown(60), a, b, ints(0, 1, 1), api.ErrTwice}, {shown(60), a, b, ints(1, 1, 2), api.ErrTwice}, {shown(60), a, b, ints(0, 1, 2), api.ErrUnknown}, {shown(60), a, b, ints(2, 0, 0), api.ErrUnknown}, {shown(60), a, b, ints(0, -1), api.ErrUnknown}, {shown(60), a, b, ints(-1, -1), api.ErrUnknown}, {shown(60), a, b, flat(32, 0), api.ErrTwice}, {shown(60), a, b, flat(32, 5), api.ErrUnknown},
		{shown(60), a, ints(1, aim.None), ints(0), api.OK}, {shown(60), a, ints(1, aim.None), ints(1), api.ErrUnknown}, {shown(60), a, ints(1, aim.None), ints(0, 1), api.ErrUnknown}, {shown(60), a, ints(1, aim.None), ints(0, 0), api.ErrTwice}, {shown(60), a, ints(1, aim.None), nil, api.ErrShort}, {shown(60), a, a, nil, api.OK}, {shown(60), a, a, ints(0), api.ErrUnknown},
		{shown(60), ints(1, 1), b, ints(1), api.ErrOver}, {shown(60), ints(1, 1), b, ints(7), api.ErrOver}, {shown(60), ints(1, 1), b, nil, api.ErrOver}, {shown(60), b, ints(1, 1), nil, api.ErrOver}, {shown(60), b, ints(1, 1), ints(7), api.ErrOver}, {shown(60), ints(1, 1), ints(1, 1), nil, api.ErrOver},
	} {
		if e := aim.CheckSteps(x.r, l, x.a, x.b, x.order); e != x.e {
			t.Errorf("CheckSteps %d of %v: error %d, want %d", i, x.order, e, x.e)
		}
	}
	for _, n := range hostileNumbers() {
		if n != 0 && n != 1 {
			expect.Err(t, "CheckSteps of no mirror", aim.CheckSteps(shown(60), l, a, b, ints(0, n)), api.ErrUnknown)
		}
	}
}

// TestCheckStepsOfManyMirrors checks that more mirrors may move than Steps takes.
func TestCheckStepsOfManyMirrors(t *testing.T) {
	r, l := receiver(2, 1, 32, 32), pixels(32, 1)
	var order []int
	for i := range 32 {
		order = append(order, 31-i)
	}
	expect.Err(t, "CheckSteps", aim.CheckSteps(r, l, flat(32, 0), flat(32, 1), order), api.OK)
	expect.Err(t, "CheckSteps of all but one", aim.CheckSteps(r, l, flat(32, 0), flat(32, 1), order[:31]), api.ErrShort)
	expect.Err(t, "CheckSteps of one twice", aim.CheckSteps(r, l, flat(32, 0), flat(32, 1), append(order[:31:31], 31)), api.ErrTwice)
	expect.Err(t, "CheckSteps of too many", aim.CheckSteps(r, l, flat(32, 0), flat(32, 1), append(order, 0)), api.ErrMany)
}

func TestDifferences(t *testing.T) {
	l := spots(spotS(), spotT(), pixel("p", 1))
	for _, x := range []struct{ a, b, mirrors []int }{
		{ints(0, -1, 3), ints(1, -1, 3), ints(0)}, {ints(0, -1, 3), ints(0, -1, 3), nil}, {ints(-1, -1, -1), ints(-1, 0, 5), ints(1, 2)}, {ints(2, 1, 0), ints(0, 0, -1), ints(0, 1, 2)}, {ints(0, 1, 0), ints(1, 1, 1), ints(0, 2)}, {ints(0, 0, 4), ints(0, 0, 5), ints(2)},
	} {
		mirrors, e := aim.Differences(l, x.a, x.b)
		expect.List(t, "Differences", mirrors, e, x.mirrors, api.OK)
		mirrors, e = aim.Differences(l, x.b, x.a)
		expect.List(t, "Differences, the other way", mirrors, e, x.mirrors, api.OK)
	}
	mirrors, e := aim.Differences(nil, nil, nil)
	expect.List(t, "Differences of no mirrors", mirrors, e, nil, api.OK)
	mirrors, e = aim.Differences(pixels(32, 1), flat(32, 0), flat(32, 1))
	if len(mirrors) != 32 || mirrors[31] != 31 || e != api.OK {
		t.Errorf("Differences of all: %v, error %d", mirrors, e)
	}
}

func TestReleasesAsDefined(t *testing.T) {
	rnd := rand.New(rand.NewSource(84))
	counts := map[int]int{}
	for range 1500 {
		r := randomReceiver(rnd, 4, 150)
		l := randomSpots(rnd, rnd.Intn(7), r, 4, []int{4, 60}[rnd.Intn(2)])
		p := randomPlan(rnd, l)
		wanted := released(r, l, p)
		mirrors, e := aim.Released(r, l, p)
		expect.List(t, "Released", mirrors, e, wanted, api.OK)
		counts[min(len(mirrors), 2)]++
	}
	if counts[0] < 100 || counts[1] < 100 || counts[2] < 100 {
		t.Errorf("the counts are %v", counts)
	}
}

// randomWay returns two plans of up to six mirrors for a receiver whose limits are hardly above their peaks, or are below one of them; the mirrors may also be alike, and exchange their aims.
func randomWay(rnd *rand.Rand) (r aim.Receiver, l []aim.Spot, a, b []int) {
	r = randomReceiver(rnd, 3, 0)
	l = randomSpots(rnd, between(rnd, 1, 6), r, 2, 40)
	a, b = randomPlan(rnd, l), randomPlan(rnd, l)
	if rnd.Intn(2) == 0 {
		r, l = receiver(6, 1, flat(6, 0)...), pixels(len(l), 10)
		a = randomPlan(rnd, l)
		b = slices.Clone(a)
		rnd.Shuffle(len(b), func(i, k int) { b[i], b[k] = b[k], b[i] })
	}
	for tile, n := range totalPeak(r, l, a) {
		r.Limits[tile] = max(n, totalPeak(r, l, b)[tile]) + rnd.Intn(8)
	}
	if tile := rnd.Intn(len(r.Limits)); rnd.Intn(4) == 0 {
		r.Limits[tile] = max(0, r.Limits[tile]-8)
	}
	return r, l, a, b
}

func TestStepsAsDefined(t *testing.T) {
	rnd := rand.New(rand.NewSource(85))
	counts := map[api.Errno]int{}
	laterOrders := 0
	for range 2000 {
		r, l, a, b := randomWay(rnd)
		wanted, ok := firstOrder(r, l, a, b)
		e := api.OK
		if !isRight(r, l, a) || !isRight(r, l, b) {
			wanted, e = nil, api.ErrOver
		} else if !ok {
			e = api.ErrInfeasible
		}
		order, f := aim.Steps(r, l, a, b)
		expect.List(t, "Steps", order, f, wanted, e)
		counts[e]++
		if e == api.OK {
			laterOrders += wantSteps(t, rnd, r, l, a, b)
		}
	}
	if counts[api.OK] < 300 || counts[api.ErrInfeasible] < 100 || counts[api.ErrOver] < 100 || laterOrders < 100 {
		t.Errorf("the counts are %v, and %d orders were not right", counts, laterOrders)
	}
}

// wantSteps checks CheckSteps with an order of all moves, drawn at random, and returns 1 if it is not right, 0 otherwise.
func wantSteps(t *testing.T, rnd *rand.Rand, r aim.Receiver, l []aim.Spot, a, b []int) int {
	t.Helper()
	order := differences(a, b)
	rnd.Shuffle(len(order), func(i, k int) { order[i], order[k] = order[k], order[i] })
	if isRightWay(r, l, a, b, order) {
		expect.Err(t, "CheckSteps", aim.CheckSteps(r, l, a, b, order), api.OK)
		return 0
	}
	expect.Err(t, "CheckSteps", aim.CheckSteps(r, l, a, b, order), api.ErrOver)
	return 1
}
