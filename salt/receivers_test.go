package salt_test

import (
	"math/rand"
	"slices"
	"testing"

	"spillage/api"
	"spillage/expect"
	"spillage/salt"
)

// P8.1

func TestCheckRules(t *testing.T) {
	for _, x := range []salt.Rules{
		r(), widest(), {Capacity: 1, Ready: 1, Hot: 2}, {Capacity: 1, Loss: 100000, Freeze: 998, Ready: 999, Hot: 1000, Cold: 998}, altered(func(r *salt.Rules) { r.Cold = 20 }), altered(func(r *salt.Rules) { r.Cold = 60 }), altered(func(r *salt.Rules) { r.Freeze = 24; r.Ready = 25; r.Hot = 26 }), altered(func(r *salt.Rules) { r.Loss = 0 }), altered(func(r *salt.Rules) { r.Capacity = 1000 }),
	} {
		expect.Err(t, "CheckRules", salt.CheckRules(x), api.OK)
	}
}

func TestCheckReceiver(t *testing.T) {
	for _, state := range []string{empty, filled, running} {
		for _, heat := range []int{0, 1, 300, 1000000000} {
			expect.Err(t, "CheckReceiver", salt.CheckReceiver(at(state, heat)), api.OK)
		}
	}
}

func TestTemperature(t *testing.T) {
	for _, x := range []struct {
		capacity, heat, degrees int
	}{{10, 300, 30}, {10, 309, 30}, {10, 310, 31}, {10, 9, 0}, {10, 0, 0}, {1, 1000000000, 1000000000}, {1000, 1000000000, 1000000}, {1000, 999999999, 999999}, {7, 20, 2}, {7, 21, 3}} {
		for _, state := range []string{empty, filled, running} {
			n, e := salt.Temperature(altered(func(r *salt.Rules) { r.Capacity = x.capacity }), at(state, x.heat))
			expect.Result(t, "Temperature", n, e, x.degrees, api.OK)
		}
	}
}

// wantStep checks what Stepped returns, and Run for this step alone.
func wantStep(t *testing.T, r salt.Rules, x salt.Receiver, s salt.Step, y salt.Receiver, b salt.Balance, wanted api.Errno) {
	t.Helper()
	got, balance, e := salt.Stepped(r, x, s)
	if got != y || balance != b || e != wanted {
		t.Errorf("Stepped %v %v %v: %v, %v, error %d, want %v, %v, error %d", r, x, s, got, balance, e, y, b, wanted)
	}
	again, sum, i, f := salt.Run(r, x, steps(s))
	if again != got || sum != balance || f != e || i != 0 {
		t.Errorf("Run %v %v %v: %v, %v, index %d, error %d, want %v, %v, error %d", r, x, s, again, sum, i, f, y, b, wanted)
	}
}

func TestActsInStates(t *testing.T) {
	for _, x := range []struct {
		state, act, next string
	}{
		{empty, wait, empty}, {empty, fill, filled}, {empty, drain, ""}, {empty, start, ""}, {empty, stop, ""},
		{filled, wait, filled}, {filled, fill, ""}, {filled, drain, empty}, {filled, start, running}, {filled, stop, ""},
		{running, wait, running}, {running, fill, ""}, {running, drain, ""}, {running, start, ""}, {running, stop, filled},
	} {
		if x.next == "" {
			wantStep(t, r(), at(x.state, 400), step(x.act, 0, 0), salt.Receiver{}, salt.Balance{}, api.ErrState)
		} else {
			wantStep(t, r(), at(x.state, 400), step(x.act, 0, 0), at(x.next, 370), balance(0, 30), api.OK)
		}
	}
}

func TestStepped(t *testing.T) {
	lossless, cold := altered(func(r *salt.Rules) { r.Loss = 0 }), altered(func(r *salt.Rules) { r.Cold = 60 })
	for _, x := range []struct {
		r salt.Rules
		x salt.Receiver
		s salt.Step
		y salt.Receiver
		b salt.Balance
	}{
		{r(), at(empty, 300), step(fill, 100, 0), at(filled, 370), balance(0, 30)}, {r(), at(filled, 370), step(start, 200, 5), at(running, 480), balance(60, 30)}, {r(), at(running, 480), step(stop, 0, 0), at(filled, 450), balance(0, 30)}, {r(), at(filled, 450), step(drain, 0, 0), at(empty, 420), balance(0, 30)},
		{r(), at(empty, 0), step(wait, 0, 0), at(empty, 0), balance(0, 0)}, {r(), at(empty, 20), step(wait, 0, 0), at(empty, 0), balance(0, 20)}, {r(), at(empty, 30), step(wait, 0, 0), at(empty, 0), balance(0, 30)}, {r(), at(empty, 31), step(wait, 0, 0), at(empty, 1), balance(0, 30)}, {r(), at(empty, 0), step(wait, 29, 0), at(empty, 0), balance(0, 29)}, {r(), at(filled, 230), step(drain, 0, 0), at(empty, 200), balance(0, 30)}, {r(), at(filled, 200), step(drain, 0, 0), at(empty, 170), balance(0, 30)}, {lossless, at(filled, 200), step(wait, 0, 0), at(filled, 200), balance(0, 0)}, {lossless, at(empty, 0), step(wait, 609, 0), at(empty, 609), balance(0, 0)},
		{r(), at(running, 203), step(wait, 40, 10), at(running, 260), balance(-47, 30)}, {r(), at(running, 399), step(wait, 0, 3), at(running, 325), balance(44, 30)}, {r(), at(running, 399), step(wait, 0, 10), at(running, 220), balance(149, 30)}, {r(), at(running, 609), step(wait, 0, 1), at(running, 544), balance(35, 30)}, {r(), at(running, 250), step(wait, 0, 7), at(running, 220), balance(0, 30)}, {r(), at(running, 249), step(wait, 0, 7), at(running, 220), balance(-1, 30)}, {cold, at(running, 300), step(wait, 0, 10), at(running, 570), balance(-300, 30)}, {r(), at(filled, 609), step(start, 0, 10), at(running, 220), balance(359, 30)},
		{r(), at(filled, 230), step(wait, 0, 0), at(filled, 200), balance(0, 30)}, {r(), at(filled, 0), step(wait, 230, 0), at(filled, 200), balance(0, 30)}, {r(), at(running, 0), step(wait, 0, 10), at(running, 220), balance(-250, 30)}, {r(), at(filled, 600), step(wait, 39, 0), at(filled, 609), balance(0, 30)}, {r(), at(running, 639), step(stop, 0, 0), at(filled, 609), balance(0, 30)}, {r(), at(running, 1000), step(wait, 0, 10), at(running, 220), balance(750, 30)}, {r(), at(empty, 639), step(wait, 0, 0), at(empty, 609), balance(0, 30)},
		{widest(), at(filled, 1000000000), step(start, 100000, 1000), at(running, 1000000), balance(999000000, 100000)}, {widest(), at(running, 1000000), step(wait, 100999, 0), at(running, 1000999), balance(0, 100000)}, {widest(), at(running, 1000000), step(wait, 98000, 1000), at(running, 998000), balance(0, 100000)},
	} {
		wantStep(t, x.r, x.x, x.s, x.y, x.b, api.OK)
	}
}

// TestSteppedWithErrors checks each error, and those with several ones.
func TestSteppedWithErrors(t *testing.T) {
	slow := altered(func(r *salt.Rules) { r.Loss = 0 })
	for _, x := range []struct {
		r salt.Rules
		x salt.Receiver
		s salt.Step
		e api.Errno
	}{
		{r(), at(empty, 300), step(start, 0, 0), api.ErrState}, {r(), at(empty, 0), step(start, 0, 1), api.ErrState}, {r(), at(filled, 0), step(fill, 0, 1), api.ErrState}, {r(), at(running, 1000000000), step(drain, 1000000, 10), api.ErrState}, {r(), at(running, 0), step(fill, 0, 0), api.ErrState},
		{r(), at(empty, 299), step(fill, 0, 0), api.ErrBand}, {r(), at(empty, 299), step(fill, 100, 1), api.ErrBand}, {r(), at(empty, 0), step(fill, 0, 0), api.ErrBand}, {altered(func(r *salt.Rules) { r.Ready = 31 }), at(empty, 309), step(fill, 100, 0), api.ErrBand},
		{r(), at(filled, 300), step(wait, 0, 1), api.ErrRule}, {r(), at(running, 300), step(stop, 0, 1), api.ErrRule}, {r(), at(empty, 300), step(fill, 0, 10), api.ErrRule}, {r(), at(empty, 300), step(wait, 0, 1), api.ErrRule}, {r(), at(filled, 0), step(drain, 0, 1), api.ErrRule}, {r(), at(filled, 200), step(wait, 0, 1), api.ErrRule}, {r(), at(empty, 1000000000), step(wait, 1000000, 1), api.ErrRule}, {r(), at(filled, 609), step(wait, 1000, 1), api.ErrRule},
		{r(), at(empty, 1000000000), step(wait, 31, 0), api.ErrLarge}, {r(), at(filled, 1000000000), step(wait, 1000000, 0), api.ErrLarge}, {r(), at(running, 999000031), step(wait, 1000000, 0), api.ErrLarge}, {slow, at(empty, 1000000000), step(wait, 1, 0), api.ErrLarge}, {slow, at(empty, 1000000000), step(fill, 1, 0), api.ErrLarge},
		{r(), at(filled, 229), step(wait, 0, 0), api.ErrHeld}, {r(), at(filled, 200), step(wait, 29, 0), api.ErrHeld}, {r(), at(filled, 0), step(start, 0, 0), api.ErrHeld}, {r(), at(running, 0), step(stop, 0, 0), api.ErrHeld}, {r(), at(filled, 10), step(wait, 0, 0), api.ErrHeld}, {altered(func(r *salt.Rules) { r.Cold = 20 }), at(running, 1000000000), step(wait, 29, 10), api.ErrHeld}, {altered(func(r *salt.Rules) { r.Loss = 110 }), at(empty, 300), step(fill, 0, 0), api.ErrHeld},
		{r(), at(filled, 600), step(wait, 100, 0), api.ErrOver}, {r(), at(filled, 600), step(wait, 40, 0), api.ErrOver}, {r(), at(empty, 600), step(wait, 40, 0), api.ErrOver}, {r(), at(filled, 640), step(drain, 0, 0), api.ErrOver}, {r(), at(empty, 640), step(fill, 0, 0), api.ErrOver}, {r(), at(running, 600), step(wait, 390, 10), api.ErrOver}, {r(), at(empty, 1000000000), step(wait, 30, 0), api.ErrOver}, {r(), at(running, 1000000000), step(wait, 0, 9), api.ErrOver}, {altered(func(r *salt.Rules) { r.Freeze, r.Cold = 0, 0 }), at(running, 1000000000), step(wait, 1000000, 9), api.ErrOver}, {slow, at(filled, 610), step(wait, 0, 0), api.ErrOver},
	} {
		wantStep(t, x.r, x.x, x.s, salt.Receiver{}, salt.Balance{}, x.e)
	}
}

// run is what Run returns.
type run struct {
	x salt.Receiver
	b salt.Balance
	i int
	e api.Errno
}

func runBy(r salt.Rules, x salt.Receiver, l []salt.Step) run {
	y, b, i, e := salt.Run(r, x, l)
	return run{y, b, i, e}
}

func TestRun(t *testing.T) {
	for _, x := range []struct {
		x      salt.Receiver
		l      []salt.Step
		wanted run
	}{
		{at(empty, 300), nil, run{x: at(empty, 300)}}, {at(running, 0), nil, run{x: at(running, 0)}}, {at(filled, 1000000000), steps(), run{x: at(filled, 1000000000)}},
		{at(empty, 300), steps(step(fill, 100, 0), step(start, 200, 5), step(wait, 0, 10)), run{x: at(running, 220), b: balance(290, 90)}}, {at(running, 203), steps(step(wait, 40, 10), step(wait, 40, 10)), run{x: at(running, 260), b: balance(-37, 60)}}, {at(empty, 50), slices.Repeat(steps(step(wait, 0, 0)), 256), run{x: at(empty, 0), b: balance(0, 50)}}, {at(filled, 300), slices.Repeat(steps(step(start, 30, 0), step(stop, 30, 0)), 128), run{x: at(filled, 300), b: balance(0, 7680)}},
		{at(empty, 300), steps(step(fill, 0, 0), step(wait, 0, 0), step(wait, 0, 0), step(wait, 0, 0)), run{i: 3, e: api.ErrHeld}}, {at(empty, 300), steps(step(start, 0, 0), step(fill, 0, 0)), run{e: api.ErrState}}, {at(empty, 300), steps(step(wait, 0, 0), step(fill, 0, 0), step(start, 0, 0)), run{i: 1, e: api.ErrBand}}, {at(empty, 300), steps(step(fill, 30, 0), step(wait, 30, 1), step(drain, 0, 5)), run{i: 1, e: api.ErrRule}}, {at(filled, 300), steps(step(drain, 0, 0), step(wait, 1000000, 0), step(start, 0, 0)), run{i: 1, e: api.ErrOver}}, {at(filled, 200), append(slices.Repeat(steps(step(wait, 30, 0)), 255), step(wait, 29, 0)), run{i: 255, e: api.ErrHeld}}, {at(empty, 1000000000), steps(step(wait, 31, 0)), run{e: api.ErrLarge}},
	} {
		if got := runBy(r(), x.x, x.l); got != x.wanted {
			t.Errorf("Run %v %v: %v, want %v", x.x, x.l, got, x.wanted)
		}
	}
}

func TestRunsOfRandomSteps(t *testing.T) {
	rnd := rand.New(rand.NewSource(1))
	counts := map[api.Errno]int{}
	for range 20000 {
		x := randomRules(rnd)
		y := randomReceiver(rnd, x)
		l := lit(randomPlan(rnd, x, y.State, rnd.Intn(8)), func(light api.Interval) int { return between(rnd, light.Low, light.High) })
		after, b, i, e := runOf(x, y, l)
		counts[e]++
		if got := runBy(x, y, l); got != (run{after, b, i, e}) {
			t.Fatalf("Run %v %v %v: %v, want %v, %v, index %d, error %d", x, y, l, got, after, b, i, e)
		}
		if len(l) > 0 {
			after, b, e = steppedOf(x, y, l[0])
			wantStep(t, x, y, l[0], after, b, e)
		}
	}
	for _, e := range []api.Errno{api.OK, api.ErrState, api.ErrBand, api.ErrRule, api.ErrHeld, api.ErrOver} {
		if counts[e] < 500 {
			t.Errorf("the counts are %v", counts)
		}
	}
}

// TestStepsOfGreatHeats checks that no product is too large.
func TestStepsOfGreatHeats(t *testing.T) {
	rnd := rand.New(rand.NewSource(2))
	for range 2000 {
		x := widest()
		x.Capacity, x.Loss = between(rnd, 990, 1000), between(rnd, 0, 10)
		y, s := at(running, between(rnd, 999000000, 1000000000)), step(wait, rnd.Intn(1000001), between(rnd, 980, x.Capacity))
		after, b, e := steppedOf(x, y, s)
		wantStep(t, x, y, s, after, b, e)
	}
}

func TestSure(t *testing.T) {
	for _, x := range []struct {
		x salt.Receiver
		l []salt.Told
		h api.Interval
		i int
		e api.Errno
	}{
		{at(empty, 300), tolds(told(fill, 0, 100, 0), told(wait, 30, 60, 0)), to(270, 400), 0, api.OK}, {at(empty, 300), nil, to(300, 300), 0, api.OK}, {at(running, 0), nil, to(0, 0), 0, api.OK}, {at(filled, 1000000000), nil, to(1000000000, 1000000000), 0, api.OK}, {at(running, 300), tolds(told(wait, 0, 50, 10)), to(220, 270), 0, api.OK}, {at(running, 300), tolds(told(wait, 0, 50, 0), told(wait, 0, 0, 10)), to(220, 220), 0, api.OK}, {at(running, 300), tolds(told(wait, 0, 15, 0), told(wait, 0, 0, 5)), to(230, 238), 0, api.OK}, {at(empty, 10), tolds(told(wait, 0, 25, 0)), to(0, 5), 0, api.OK}, {at(filled, 400), slices.Repeat(tolds(told(wait, 30, 30, 0)), 256), to(400, 400), 0, api.OK}, {at(filled, 230), tolds(told(wait, 0, 409, 0)), to(200, 609), 0, api.OK},
		{at(empty, 300), tolds(told(fill, 0, 100, 0), told(wait, 0, 0, 0), told(wait, 0, 0, 0), told(wait, 0, 90, 0)), api.Interval{}, 3, api.ErrHeld}, {at(empty, 300), tolds(told(fill, 0, 340, 0)), api.Interval{}, 0, api.ErrOver}, {at(empty, 300), tolds(told(fill, 0, 339, 0), told(wait, 0, 31, 0)), api.Interval{}, 1, api.ErrOver}, {at(empty, 300), tolds(told(wait, 20, 40, 0), told(fill, 0, 0, 0)), api.Interval{}, 1, api.ErrBand}, {at(empty, 300), tolds(told(wait, 30, 40, 0), told(start, 0, 0, 0)), api.Interval{}, 1, api.ErrState}, {at(empty, 300), tolds(told(wait, 30, 40, 0), told(fill, 0, 0, 1)), api.Interval{}, 1, api.ErrRule}, {at(empty, 1000000000), tolds(told(wait, 31, 40, 0)), api.Interval{}, 0, api.ErrLarge}, {at(empty, 1000000000), tolds(told(wait, 30, 31, 0)), api.Interval{}, 0, api.ErrOver}, {at(filled, 229), tolds(told(wait, 0, 1000, 0)), api.Interval{}, 0, api.ErrHeld}, {at(filled, 230), tolds(told(wait, 0, 410, 0)), api.Interval{}, 0, api.ErrOver}, {at(filled, 230), tolds(told(wait, 0, 409, 0), told(wait, 0, 0, 0)), api.Interval{}, 1, api.ErrHeld}, {at(filled, 230), tolds(told(wait, 0, 410, 0), told(wait, 0, 0, 0)), api.Interval{}, 0, api.ErrOver}, {at(filled, 200), append(slices.Repeat(tolds(told(wait, 30, 30, 0)), 255), told(wait, 29, 30, 0)), api.Interval{}, 255, api.ErrHeld},
	} {
		h, i, e := salt.Sure(r(), x.x, x.l)
		if h != x.h || i != x.i || e != x.e {
			t.Errorf("Sure %v %v: %v, index %d, error %d, want %v, index %d, error %d", x.x, x.l, h, i, e, x.h, x.i, x.e)
		}
	}
	light := tolds(told(wait, 0, 1000000, 0))
	h, i, e := salt.Sure(salt.Rules{Capacity: 1000, Freeze: 0, Ready: 1, Hot: 1000}, at(empty, 999), light)
	if h != to(999, 1000999) || i != 0 || e != api.OK {
		t.Errorf("Sure of all light: %v, index %d, error %d", h, i, e)
	}
}

// TestSureOfAllLights tries each light of short plans.
func TestSureOfAllLights(t *testing.T) {
	rnd := rand.New(rand.NewSource(3))
	counts := map[api.Errno]int{}
	late := 0
	for range 6000 {
		x := randomRules(rnd)
		y := randomReceiver(rnd, x)
		l := randomPlan(rnd, x, y.State, rnd.Intn(5))
		for i := range l {
			l[i].Light.High = min(l[i].Light.High, l[i].Light.Low+3)
		}
		h, i, e := salt.Sure(x, y, l)
		heats, first, wanted := sureOf(x, y, l)
		if h != heats || i != first || e != wanted {
			t.Fatalf("Sure %v %v %v: %v, index %d, error %d, want %v, index %d, error %d", x, y, l, h, i, e, heats, first, wanted)
		}
		counts[e]++
		late += i
	}
	for _, e := range []api.Errno{api.OK, api.ErrState, api.ErrBand, api.ErrRule, api.ErrHeld, api.ErrOver} {
		if counts[e] < 100 || late < 500 {
			t.Errorf("the counts are %v, %d", counts, late)
		}
	}
}

func TestHold(t *testing.T) {
	for _, x := range []struct {
		r salt.Rules
		x salt.Receiver
		n int
		e api.Errno
	}{
		{r(), at(filled, 230), 1, api.OK}, {r(), at(running, 289), 2, api.OK}, {r(), at(running, 290), 3, api.OK}, {r(), at(filled, 200), 0, api.OK}, {r(), at(filled, 229), 0, api.OK}, {r(), at(filled, 259), 1, api.OK}, {r(), at(filled, 609), 13, api.OK}, {r(), at(filled, 1000000000), 33333326, api.OK}, {altered(func(r *salt.Rules) { r.Loss = 1 }), at(running, 1000000000), 999999800, api.OK}, {altered(func(r *salt.Rules) { r.Loss = 100000 }), at(running, 609), 0, api.OK}, {widest(), at(filled, 998000), 0, api.OK}, {widest(), at(filled, 1098000), 1, api.OK}, {widest(), at(filled, 1097999), 0, api.OK}, {altered(func(r *salt.Rules) { r.Capacity, r.Loss = 7, 3 }), at(filled, 145), 1, api.OK}, {altered(func(r *salt.Rules) { r.Capacity, r.Loss = 7, 3 }), at(filled, 146), 2, api.OK},
		{r(), at(empty, 300), 0, api.ErrState}, {r(), at(empty, 0), 0, api.ErrState}, {altered(func(r *salt.Rules) { r.Loss = 0 }), at(empty, 0), 0, api.ErrState}, {altered(func(r *salt.Rules) { r.Freeze = 0 }), at(empty, 300), 0, api.ErrState},
		{r(), at(filled, 199), 0, api.ErrHeld}, {r(), at(running, 0), 0, api.ErrHeld}, {altered(func(r *salt.Rules) { r.Loss = 0 }), at(filled, 199), 0, api.ErrHeld}, {widest(), at(running, 997999), 0, api.ErrHeld},
		{altered(func(r *salt.Rules) { r.Loss = 0 }), at(filled, 200), 0, api.ErrNone}, {altered(func(r *salt.Rules) { r.Freeze = 0 }), at(running, 230), 0, api.ErrNone}, {altered(func(r *salt.Rules) { r.Freeze = 0 }), at(filled, 0), 0, api.ErrNone}, {altered(func(r *salt.Rules) { r.Freeze, r.Loss = 0, 0 }), at(filled, 1000000000), 0, api.ErrNone},
	} {
		n, e := salt.Hold(x.r, x.x)
		expect.Result(t, "Hold", n, e, x.n, x.e)
	}
}
