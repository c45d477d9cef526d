package cloud_test

import (
	"math/rand"
	"slices"
	"testing"

	"spillage/api"
	"spillage/cloud"
	"spillage/expect"
	"spillage/light"
)

// P7.3

func TestCheckDrift(t *testing.T) {
	for _, d := range []cloud.Drift{drift(0, 2, 0, 2), drift(0, 8, -8, 0), drift(-4, 4, 5, 5), during(1, to(-1000, -992), to(992, 1000)), during(1000, to(1000, 1000), to(-1000, -1000)), {Ticks: 1}} {
		expect.Err(t, "CheckDrift", cloud.CheckDrift(d), api.OK)
	}
	for _, x := range driftFaults(func(a *arguments, d cloud.Drift) { a.drift = d }) {
		bad := rightArguments()
		x.Spoil(&bad)
		expect.Err(t, "CheckDrift of no drift", cloud.CheckDrift(bad.drift), x.Err)
	}
}

func TestSeen(t *testing.T) {
	for _, x := range []struct {
		a, b        light.Map
		most, least int
		ticks, blur int
		d           cloud.Drift
		e           api.Errno
	}{
		{a(), b(), 1, 4, 10, 1, drift(0, 2, 0, 2), api.OK}, {a(), b(), 1, 4, 10, 0, drift(1, 1, 1, 1), api.OK}, {a(), b(), 1, 4, 1, 4, during(1, to(-3, 5), to(-3, 5)), api.OK}, {a(), b(), 1, 7, 1000, 2, during(1000, to(-2, 2), to(-3, 1)), api.OK}, {b(), a(), 1, 4, 10, 1, drift(-2, 0, -2, 0), api.OK}, {a(), b(), 0, 1, 10, 3, drift(-3, 3, -3, 3), api.OK}, {drawn("911111111"), drawn("222222229"), 8, 1, 10, 4, drift(4, 12, -4, 4), api.OK}, {drawn("1", "0", "3"), drawn("3", "7", "7"), 8, 1, 10, 4, drift(-4, 4, -6, 2), api.OK},
		{a(), b(), 1, 13, 10, 1, cloud.Drift{}, api.ErrInfeasible}, {a(), b(), 0, 4096, 10, 0, cloud.Drift{}, api.ErrInfeasible},
	} {
		d, e := cloud.Seen(x.a, x.b, x.most, x.least, x.ticks, x.blur)
		expect.Result(t, "Seen", d, e, x.d, x.e)
	}
}

func TestBoth(t *testing.T) {
	for _, x := range []struct {
		a, b, d cloud.Drift
		e       api.Errno
	}{
		{drift(0, 2, 0, 2), drift(1, 3, -1, 1), drift(1, 2, 0, 1), api.OK}, {drift(0, 2, 0, 2), drift(0, 2, 0, 2), drift(0, 2, 0, 2), api.OK}, {drift(0, 2, 0, 2), drift(2, 3, 2, 9), drift(2, 2, 2, 2), api.OK}, {drift(-4, 4, -4, 4), drift(-1, 0, 3, 3), drift(-1, 0, 3, 3), api.OK}, {drift(1000, 1000, -1000, -1000), drift(992, 1000, -1000, -992), drift(1000, 1000, -1000, -1000), api.OK},
		{drift(0, 2, 0, 2), drift(3, 4, 0, 2), cloud.Drift{}, api.ErrConflict}, {drift(0, 2, 0, 2), drift(0, 2, -2, -1), cloud.Drift{}, api.ErrConflict}, {drift(0, 2, 0, 2), drift(3, 4, 3, 4), cloud.Drift{}, api.ErrConflict}, {drift(-5, -5, 0, 2), drift(5, 5, 0, 2), cloud.Drift{}, api.ErrConflict}, {drift(0, 2, 0, 2), during(5, to(0, 2), to(0, 2)), cloud.Drift{}, api.ErrShape}, {during(9, to(0, 2), to(0, 2)), drift(3, 4, 0, 2), cloud.Drift{}, api.ErrShape},
	} {
		d, e := cloud.Both(x.a, x.b)
		expect.Result(t, "Both", d, e, x.d, x.e)
		d, e = cloud.Both(x.b, x.a)
		expect.Result(t, "Both, the other way round", d, e, x.d, x.e)
	}
}

func TestMotions(t *testing.T) {
	for _, x := range []struct {
		d cloud.Drift
		l []api.Point
	}{
		{drift(0, 1, -1, 0), points(0, -1, 1, -1, 0, 0, 1, 0)}, {drift(0, 0, 0, 0), points(0, 0)}, {drift(-1000, -1000, 1000, 1000), points(-1000, 1000)}, {drift(-2, 0, 7, 7), points(-2, 7, -1, 7, 0, 7)}, {drift(5, 5, -2, 0), points(5, -2, 5, -1, 5, 0)}, {drift(0, 2, 0, 2), points(0, 0, 1, 0, 2, 0, 0, 1, 1, 1, 2, 1, 0, 2, 1, 2, 2, 2)},
	} {
		l, e := cloud.Motions(x.d)
		expect.List(t, "Motions", l, e, x.l, api.OK)
	}
	l, e := cloud.Motions(drift(992, 1000, -1000, -992))
	if e != api.OK || len(l) != 81 || l[0] != at(992, -1000) || l[8] != at(1000, -1000) || l[80] != at(1000, -992) {
		t.Errorf("the most motions are %v, error %d", l, e)
	}
}

func TestMoved(t *testing.T) {
	for _, x := range []struct {
		motion   api.Point
		ticks, t int
		p        api.Point
	}{
		{at(1, 1), 10, 0, at(0, 0)}, {at(1, 1), 10, 4, at(0, 0)}, {at(1, 1), 10, 5, at(1, 1)}, {at(1, 1), 10, 14, at(1, 1)}, {at(1, 1), 10, 15, at(2, 2)}, {at(-1, -3), 10, 5, at(0, -1)}, {at(-1, -3), 10, 6, at(-1, -2)}, {at(-1, 7), 10, 6, at(-1, 4)}, {at(-1, 0), 10, 14, at(-1, 0)}, {at(-1, 0), 10, 15, at(-1, 0)}, {at(-1, 0), 10, 16, at(-2, 0)}, {at(1, -1), 3, 1, at(0, 0)}, {at(1, -1), 3, 2, at(1, -1)}, {at(2, -2), 3, 1, at(1, -1)},
		{at(0, 0), 1, 1000, at(0, 0)}, {at(1000, -1000), 1, 1000, at(1000000, -1000000)}, {at(1000, -1000), 1000, 1, at(1, -1)}, {at(999, -999), 1000, 1000, at(999, -999)}, {at(1, -1), 1000, 499, at(0, 0)}, {at(1, -1), 1000, 500, at(1, 0)}, {at(1, -1), 1000, 501, at(1, -1)}, {at(1, -1), 999, 499, at(0, 0)}, {at(1, -1), 999, 500, at(1, -1)},
	} {
		p, e := cloud.Moved(x.motion, x.ticks, x.t)
		expect.Result(t, "Moved", p, e, x.p, api.OK)
	}
}

func TestDriftsOfRandomNumbers(t *testing.T) {
	rnd := rand.New(rand.NewSource(10))
	apart := 0
	for range 5000 {
		motion, ticks, ahead := randomPoint(rnd, pick(rnd, 3, 1000)), between(rnd, 1, pick(rnd, 12, 1000)), between(rnd, 0, pick(rnd, 30, 1000))
		p, e := cloud.Moved(motion, ticks, ahead)
		expect.Result(t, "Moved", p, e, at(movedBy(motion.X, ticks, ahead), movedBy(motion.Y, ticks, ahead)), api.OK)
		c, d := randomDrift(rnd, 8, 9), randomDrift(rnd, 8, 9)
		d.Ticks = c.Ticks
		first, e := cloud.Motions(c)
		expect.Err(t, "Motions", e, api.OK)
		second, e := cloud.Motions(d)
		expect.Err(t, "Motions", e, api.OK)
		shared := slices.DeleteFunc(first, func(p api.Point) bool { return !slices.Contains(second, p) })
		both, e := cloud.Both(c, d)
		expect.Err(t, "Both", e, errorOf(len(shared) == 0, api.ErrConflict))
		if len(shared) == 0 {
			apart++
			continue
		}
		l, e := cloud.Motions(both)
		expect.List(t, "the motions of Both", l, e, shared, api.OK)
	}
	if apart < 500 || apart > 4500 {
		t.Errorf("%d pairs of drifts are apart", apart)
	}
}
