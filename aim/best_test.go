package aim_test

import (
	"math/rand"
	"testing"

	"spillage/aim"
	"spillage/api"
	"spillage/expect"
)

// P5.3

func TestExamplesOfBestPlans(t *testing.T) {
	standby := aim.None
	twin := altered(func(x *aim.Spot) { x.Name = "twin" })
	for i, x := range []struct {
		r aim.Receiver
		l []aim.Spot
		p []int
	}{
		{shown(60), spots(spotS(), spotT()), ints(0, standby)}, {shown(20), spots(spotS(), spotT()), ints(1, standby)}, {shown(10), spots(spotS(), spotT()), ints(2, standby)}, {shown(32), spots(spotS()), ints(0)}, {shown(31), spots(spotS()), ints(1)}, {shown(60), spots(spotT()), ints(standby)}, {shown(60), nil, nil}, {receiver(3, 1, 0, 0, 0), spots(spotS(), spotT()), ints(standby, standby)}, {receiver(3, 1, 0, 0, 16), spots(spotS(), spotT()), ints(2, standby)},
		{shown(60), spots(spotT(), spotS()), ints(standby, 0)}, {shown(60), spots(spotS(), twin), ints(0, 1)}, {receiver(3, 1, 32, 64, 0), spots(spotS(), twin), ints(0, 0)}, {receiver(3, 1, 16, 32, 16), spots(spotS(), twin), ints(0, 2)}, {receiver(3, 1, 16, 32, 15), spots(spotS(), twin), ints(standby, 0)}, {receiver(3, 1, 0, 16, 32), spots(spotS(), twin), ints(standby, 1)}, {receiver(3, 1, 0, 16, 48), spots(spotS(), twin), ints(1, 2)},
	} {
		p, e := aim.Plan(x.r, x.l)
		expect.List(t, "Plan", append(ints(i), p...), e, append(ints(i), x.p...), api.OK)
	}
}

// TestTheFirstOfSeveralBestPlans checks mirrors whose aims are all alike.
func TestTheFirstOfSeveralBestPlans(t *testing.T) {
	for _, x := range []struct {
		r aim.Receiver
		n int
		p []int
	}{
		{receiver(6, 1, flat(6, 10)...), 1, ints(0)}, {receiver(6, 1, flat(6, 10)...), 3, ints(0, 1, 2)}, {receiver(6, 1, flat(6, 20)...), 5, ints(0, 0, 1, 1, 2)}, {receiver(6, 1, flat(6, 10)...), 8, ints(-1, -1, 0, 1, 2, 3, 4, 5)}, {receiver(6, 1, 0, 0, 10, 9, 10, 20), 6, ints(-1, -1, 2, 4, 5, 5)}, {receiver(6, 1, flat(6, 9)...), 3, ints(-1, -1, -1)}, {receiver(6, 1, flat(6, 80)...), 8, flat(8, 0)}, {receiver(6, 1, 79, 10, 0, 0, 0, 0), 8, ints(0, 0, 0, 0, 0, 0, 0, 1)},
	} {
		p, e := aim.Plan(x.r, pixels(x.n, 10))
		expect.List(t, "Plan", p, e, x.p, api.OK)
	}
}

func TestPlansOfTooManyMirrors(t *testing.T) {
	r := receiver(6, 1, flat(6, 1000)...)
	p, e := aim.Plan(r, pixels(8, 1))
	expect.List(t, "Plan of eight mirrors", p, e, flat(8, 0), api.OK)
	for _, n := range ints(9, 10, 32) {
		p, e := aim.Plan(r, pixels(n, 1))
		expect.List(t, "Plan of too many mirrors", p, e, nil, api.ErrLimit)
	}
}

func TestExamplesOfBounds(t *testing.T) {
	l := spots(spotS(), spotT())
	for _, x := range []struct {
		middle int
		prices []int
		bound  int
	}{
		{60, ints(1000, 0, 0), 88000}, {60, ints(0, 500, 0), 70000}, {60, ints(0, 0, 0), 48000}, {20, ints(0, 0, 0), 48000}, {60, ints(0, 1000, 0), 60000 + 32000}, {60, ints(1000, 1000, 1000), 140000}, {60, ints(0, 1500, 0), 90000 + 24000}, {60, ints(0, 3000, 0), 180000 + 16000}, {60, ints(0, 1500, 1), 90000 + 40 + 24000 - 32}, {60, ints(100000, 100000, 100000), 14000000}, {0, ints(0, 100000, 0), 16000},
	} {
		n, e := aim.Bound(shown(x.middle), l, x.prices)
		expect.Result(t, "Bound", n, e, x.bound, api.OK)
		n, e = aim.Gap(shown(60), l, ints(0, aim.None), x.prices)
		expect.Result(t, "Gap", n, e, x.bound-48000+(60-x.middle)*x.prices[1], api.OK)
	}
	n, e := aim.Bound(receiver(8, 8, flat(64, 1000000)...), nil, flat(64, 100000))
	expect.Result(t, "the greatest bound of prices", n, e, 64*1000000*100000, api.OK)
}

func TestGapsOfPlans(t *testing.T) {
	l, prices := spots(spotS(), spotT()), ints(1000, 0, 0)
	for _, x := range []struct {
		p   []int
		gap int
	}{{ints(0, -1), 40000}, {ints(0, 0), 40000}, {ints(1, -1), 40000}, {ints(2, -1), 72000}, {ints(2, 1), 72000}, {ints(-1, 0), 88000}, {ints(-1, -1), 88000}} {
		n, e := aim.Gap(shown(60), l, x.p, prices)
		expect.Result(t, "Gap", n, e, x.gap, api.OK)
	}
	for _, x := range []struct {
		middle int
		p      []int
	}{{60, ints(1, 1)}, {55, ints(0, 0)}, {31, ints(0, -1)}} {
		n, e := aim.Gap(shown(x.middle), l, x.p, prices)
		expect.Result(t, "Gap of a plan that is not right", n, e, 0, api.ErrOver)
	}
	n, e := aim.Gap(shown(60), nil, nil, ints(1, 2, 3))
	expect.Result(t, "Gap of no mirrors", n, e, 40+120+120, api.OK)
}

func randomPrices(rnd *rand.Rand, r aim.Receiver, most int) []int {
	var l []int
	for range r.Limits {
		l = append(l, max(0, between(rnd, -most, most)))
	}
	return l
}

func TestBestPlansAsDefined(t *testing.T) {
	rnd := rand.New(rand.NewSource(83))
	counts := map[string]int{}
	for i := range 1200 {
		r := randomReceiver(rnd, 4, []int{60, 200}[i%2])
		l := randomSpots(rnd, rnd.Intn(5), r, 3, []int{2, 60}[i/2%2])
		for k := range l {
			l[k].Aims = l[k].Aims[:min(len(l[k].Aims), 3)]
			l[k].Wrong = min(l[k].Wrong, 1)
		}
		wanted := bestPlan(r, l)
		p, e := aim.Plan(r, l)
		expect.List(t, "Plan", p, e, wanted, api.OK)
		prices := randomPrices(rnd, r, []int{3000, 100000}[i%2])
		n, e := aim.Bound(r, l, prices)
		expect.Result(t, "Bound", n, e, bound(r, l, prices), api.OK)
		p = randomPlan(rnd, l)
		n, e = aim.Gap(r, l, p, prices)
		if isRight(r, l, p) {
			expect.Result(t, "Gap", n, e, bound(r, l, prices)-1000*totalLight(r, l, p), api.OK)
			counts["right"]++
		} else {
			expect.Result(t, "Gap of a plan that is not right", n, e, 0, api.ErrOver)
			counts["over"]++
		}
		if totalLight(r, l, wanted) > 0 {
			counts["light"]++
		}
	}
	if counts["right"] < 100 || counts["over"] < 100 || counts["light"] < 300 {
		t.Errorf("the counts are %v", counts)
	}
}
