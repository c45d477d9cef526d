package beam_test

import (
	"math/rand"
	"slices"
	"testing"

	"spillage/api"
	"spillage/beam"
	"spillage/expect"
)

// P6.3

func TestCheckField(t *testing.T) {
	forty := slices.Repeat(ints(1, 0), 20)
	for i, f := range []beam.Field{
		{Lease: 1}, {Tick: 10000000, Lease: 100}, dusk(), day(), field(0, mirror(0, 0, 0)), field(10, mirror(0, 0, 10)), field(10, mirror(0, 0, 0)), field(10000000, mirror(0, 0, 10000000)), field(10, standing(16)...),
		field(10, mirror(0, 1, 9, 1)), field(10, mirror(0, 4, 9, 1)), field(10, mirror(0, 4, 9, 1, 3)), field(10, mirror(1, 10, 9, 3)), field(10, mirror(3, 1, 9, 1, 0, 1, 2, 3, 1)), field(10, mirror(0, 4, 9, forty...)), field(10, mirror(1, 0, 9)), field(10, mirror(3, 0, 9)),
		field(10, mirror(0, 0, 9), named("M", "n", mirror(0, 0, 9)), named("n", "m", mirror(0, 0, 9)), named("f", "f", mirror(0, 0, 9)), named("abcdefghijklmnopqrstuvwx", "abcdefghijklmnopqrstuvwx", mirror(0, 0, 9))),
	} {
		if e := beam.CheckField(wide(), f); e != api.OK {
			t.Errorf("CheckField %d: error %d", i, e)
		}
	}
	for _, x := range []struct {
		g beam.Grid
		f beam.Field
		e api.Errno
	}{
		{beam.Grid{}, field(10), api.OK}, {beam.Grid{}, dusk(), api.ErrUnknown}, {cut(), dusk(), api.ErrNone}, {cut(), field(10, mirror(1, 0, 9)), api.OK}, {beside(), dusk(), api.OK}, {beside(), field(10, mirror(1, 0, 9)), api.ErrHeld}, {beside(), field(10, mirror(0, 4, 9, 1)), api.ErrRule}, {beside(), field(10, mirror(0, 6, 9, 2)), api.OK}, {altered(plane(), func(g *beam.Grid) { g.Zones[0].Centre = at(500, 500) }), dusk(), api.ErrHeld}, {altered(plane(), func(g *beam.Grid) { g.Stations[1].Kind, g.Stations[2].Kind = "stow", "stow" }), field(10, mirror(3, 0, 9)), api.ErrNone},
	} {
		expect.Err(t, "CheckField of another grid", beam.CheckField(x.g, x.f), x.e)
	}
}

// TestTheFirstErrorOfAFieldDecides checks the order of the errors of a mirror, and of the mirrors.
func TestTheFirstErrorOfAFieldDecides(t *testing.T) {
	first, long := named("a", "n", mirror(1, 0, 9)), make([]int, 41)
	for i, x := range []struct {
		second, third beam.Mirror
		e             api.Errno
	}{
		{named("", "", mirror(9, 9, 11, 9)), first, api.ErrName}, {named("a", "", mirror(9, 9, 11, 9)), named("", "", first), api.ErrTwice}, {named("b", "", mirror(9, 9, 11, 9)), first, api.ErrName}, {named("b", "n", mirror(9, 9, 11, long...)), first, api.ErrUnknown}, {named("b", "n", mirror(held, 9, 11, long...)), first, api.ErrHeld}, {named("b", "n", mirror(0, 9, 11, long...)), first, api.ErrMany},
		{named("b", "n", mirror(0, 9, 11, 1, 9, 9)), first, api.ErrUnknown}, {named("b", "n", mirror(0, 9, 11, 1, 3, 3, 9)), first, api.ErrRule}, {named("b", "n", mirror(0, 9, 11, 1, 3)), first, api.ErrRange}, {named("b", "n", mirror(0, 4, 11, 1, 3)), first, api.ErrRange}, {named("b", "n", mirror(alone, 1, 9)), first, api.ErrRange}, {named("b", "n", mirror(alone, 0, 11)), first, api.ErrRange}, {named("b", "n", mirror(alone, 0, 9)), first, api.ErrNone}, {named("b", "n", mirror(0, 0, 9)), first, api.ErrTwice}, {named("b", "n", mirror(0, 0, 9)), named("c", "n", mirror(held, 0, 9)), api.ErrHeld},
	} {
		if e := beam.CheckField(wide(), field(10, first, x.second, x.third)); e != x.e {
			t.Errorf("CheckField %d: error %d, want %d", i, e, x.e)
		}
	}
}

func TestExamplesOfHeard(t *testing.T) {
	for i, x := range []struct {
		f beam.Field
		o beam.Order
		m beam.Mirror
	}{
		{dusk(), order("m", "s"), mirror(0, 4, 10, 1, 3)}, {dusk(), lost(order("m", "s")), mirror(0, 0, 9)}, {dusk(), order("m", "f"), mirror(0, 0, 10)}, {dusk(), order("m", "a"), mirror(0, 4, 10, 1)}, {dusk(), order("m", "b"), mirror(0, 4, 10, 1, 2)}, {field(11, mirror(0, 3, 10, 1, 3)), order("m", "f"), mirror(0, 3, 11, 1, 0)}, {field(11, mirror(0, 3, 10, 1, 3)), order("m", "a"), mirror(0, 3, 11, 1)}, {field(11, mirror(0, 3, 10, 1, 3)), order("m", "b"), mirror(0, 3, 11, 1, 2)}, {field(11, mirror(0, 3, 10, 1, 3)), lost(order("m", "b")), mirror(0, 3, 10, 1, 3)}, {field(11, mirror(0, 3, 10, 1, 3)), order("m", "s"), mirror(0, 3, 11, 1, 3)},
		{field(10, mirror(1, 5, 0, 3, 2, 1, 0)), order("m", "f"), mirror(1, 5, 10, 3, 1, 0)}, {field(10, mirror(3, 9, 0, 2, 1, 2, 1, 2, 3)), order("m", "s"), mirror(3, 9, 10, 2, 3)}, {field(0, mirror(3, 0, 0)), order("m", "f"), mirror(3, 10, 0, 1, 0)}, {field(10, mirror(3, 0, 10)), order("m", "s"), mirror(3, 0, 10)},
	} {
		f, e := beam.Heard(wide(), x.f, x.o)
		if wanted := field(x.f.Tick, x.m); !sameField(f, wanted) || e != api.OK {
			t.Errorf("Heard %d: %v, error %d, want %v", i, f, e, wanted)
		}
	}
	three := day()
	three.Mirrors[1] = named("k", "n", mirror(1, 2, 10, 2, 1, 0))
	f, e := beam.Heard(wide(), day(), order("k", "f"))
	wantField(t, "Heard by one of three", f, e, three, api.OK)
}

func TestExamplesOfStepped(t *testing.T) {
	for i, x := range []struct{ from, to beam.Mirror }{
		{mirror(0, 0, 9), mirror(0, 0, 9)}, {mirror(0, 4, 9, 1, 3), mirror(0, 3, 9, 1, 3)}, {mirror(0, 2, 9, 1, 3), mirror(0, 1, 9, 1, 3)}, {mirror(0, 1, 9, 1, 3), mirror(1, 10, 9, 3)}, {mirror(0, 1, 9, 1), mirror(1, 0, 9)}, {mirror(1, 0, 0), mirror(1, 0, 0)}, {mirror(3, 0, 0), mirror(3, 0, 0)},
		{mirror(0, 0, 8), mirror(0, 0, 8)}, {mirror(0, 0, 7), mirror(0, 3, 7, 1)}, {mirror(0, 0, 0), mirror(0, 3, 0, 1)}, {mirror(1, 4, 8, 0), mirror(1, 3, 8, 0)}, {mirror(1, 4, 7, 0), mirror(1, 3, 7, 0, 1)}, {mirror(1, 1, 8, 0), mirror(0, 0, 8)}, {mirror(1, 1, 7, 0), mirror(0, 4, 7, 1)}, {mirror(0, 2, 0, 1, 0), mirror(0, 1, 0, 1)}, {mirror(0, 1, 0, 1, 0), mirror(1, 0, 0)}, {mirror(3, 9, 7, 2, 1, 0), mirror(3, 8, 7, 2)}, {mirror(3, 9, 8, 2, 1, 0), mirror(3, 8, 8, 2, 1, 0)}, {mirror(3, 1, 8, 2, 1, 0), mirror(2, 3, 8, 1, 0)}, {mirror(1, 10, 7, 3, 1, 0), mirror(1, 9, 7, 3, 2)}, {mirror(1, 1, 7, 3, 1, 0), mirror(3, 9, 7, 2)},
		{mirror(1, 4, 0, 0, 1, 3), mirror(1, 3, 0, 0, 1, 3)}, {mirror(0, 4, 0, 1, 3), mirror(0, 3, 0, 1, 3)}, {mirror(0, 1, 0, 1, 3), mirror(1, 10, 0, 3)},
	} {
		f, e := beam.Stepped(wide(), field(10, x.from))
		if wanted := field(11, x.to); !sameField(f, wanted) || e != api.OK {
			t.Errorf("Stepped %d: %v, error %d, want %v", i, f, e, wanted)
		}
	}
	f, e := beam.Stepped(wide(), field(9999999))
	wantField(t, "Stepped to the end", f, e, field(10000000), api.OK)
	f, e = beam.Stepped(wide(), field(10000000))
	wantField(t, "Stepped at the end", f, e, beam.Field{}, api.ErrRange)
	f, e = beam.Stepped(beam.Grid{}, field(0))
	wantField(t, "Stepped of nothing", f, e, field(1), api.OK)
	long := beam.Field{Tick: 200, Lease: 100, Mirrors: []beam.Mirror{mirror(0, 0, 101), named("k", "n", mirror(0, 0, 100))}}
	f, e = beam.Stepped(wide(), long)
	wantField(t, "Stepped at the end of a lease", f, e, beam.Field{Tick: 201, Lease: 100, Mirrors: []beam.Mirror{mirror(0, 0, 101), named("k", "n", mirror(0, 3, 100, 1))}}, api.OK)
}

func TestExamplesOfRun(t *testing.T) {
	silent := func(n int) [][]beam.Order { return make([][]beam.Order, n) }
	for i, x := range []struct {
		from   beam.Field
		rounds [][]beam.Order
		to     beam.Field
	}{
		{dusk(), nil, dusk()}, {day(), nil, day()}, {dusk(), silent(2), field(12, mirror(0, 0, 9))}, {dusk(), silent(3), field(13, mirror(0, 3, 9, 1))}, {dusk(), silent(5), field(15, mirror(0, 1, 9, 1))}, {dusk(), silent(6), field(16, mirror(1, 0, 9))}, {dusk(), silent(256), field(266, mirror(1, 0, 9))}, {field(9999744), silent(256), field(10000000)}, {field(10000000), nil, field(10000000)},
		{dusk(), [][]beam.Order{{order("x", "s"), order("m", "s")}, nil, {lost(order("m", "f"))}}, field(13, mirror(0, 1, 10, 1, 3))}, {dusk(), [][]beam.Order{{order("m", "s"), order("m", "f")}}, field(11, mirror(0, 3, 10, 1, 0))}, {dusk(), [][]beam.Order{{order("m", "s"), order("m", "a")}}, field(11, mirror(0, 3, 10, 1))}, {dusk(), [][]beam.Order{{order("m", "s"), order("m", "s"), order("m", "a"), order("m", "a"), order("m", "s")}, {order("m", "s")}, {order("m", "s"), lost(order("m", "s"))}}, field(13, mirror(0, 1, 12, 1, 3))}, {dusk(), [][]beam.Order{{lost(order("m", "s")), order("m", "s")}}, field(11, mirror(0, 3, 10, 1, 3))}, {dusk(), [][]beam.Order{{order("m", "u"), order("m", "p"), order("m", "x"), lost(order("m", "s"))}}, field(11, mirror(0, 0, 9))}, {dusk(), [][]beam.Order{nil, nil, {order("m", "f")}, nil, nil}, field(15, mirror(0, 0, 12))}, {dusk(), [][]beam.Order{nil, nil, {order("m", "u")}, nil}, field(14, mirror(0, 2, 9, 1))}, {dusk(), [][]beam.Order{nil, nil, nil, {order("m", "f")}}, field(14, mirror(0, 2, 13, 1, 0))}, {dusk(), [][]beam.Order{make([]beam.Order, 1000)}, field(11, mirror(0, 0, 9))},
		{day(), [][]beam.Order{{order("l", "f")}, {order("m", "f")}}, field(12, mirror(0, 0, 11), named("k", "n", mirror(2, 9, 8, 3)), named("l", "w", mirror(1, 2, 10, 0)))},
	} {
		f, e := beam.Run(wide(), x.from, x.rounds)
		if !sameField(f, x.to) || e != api.OK {
			t.Errorf("Run %d: %v, error %d, want %v", i, f, e, x.to)
		}
	}
	for _, x := range []struct{ tick, rounds int }{{10000000, 1}, {9999999, 2}, {9999745, 256}, {10000000, 256}} {
		f, e := beam.Run(wide(), field(x.tick), silent(x.rounds))
		wantField(t, "Run beyond the end", f, e, beam.Field{}, api.ErrRange)
	}
}

func TestExamplesOfDarkness(t *testing.T) {
	for i, x := range []struct {
		g        beam.Grid
		f        beam.Field
		deadline int
		lit      []string
		dark     bool
	}{
		{wide(), dusk(), 6, []string{"m"}, false}, {wide(), field(10, mirror(0, 0, 10)), 7, []string{"m"}, false}, {wide(), field(10, mirror(0, 0, 0)), 4, []string{"m"}, false}, {wide(), field(10, mirror(0, 0, 6)), 4, []string{"m"}, false}, {wide(), field(10, mirror(0, 0, 7)), 4, []string{"m"}, false}, {wide(), field(10, mirror(0, 0, 8)), 5, []string{"m"}, false}, {wide(), field(10, mirror(1, 0, 0)), 0, nil, true}, {wide(), field(10, mirror(3, 0, 0)), 0, nil, true}, {wide(), field(10), 0, nil, true},
		{wide(), field(10, mirror(0, 2, 0, 1, 3)), 12, nil, false}, {wide(), field(10, mirror(3, 9, 10, 1, 0)), 9, nil, false}, {wide(), field(10, mirror(1, 1, 0, 3)), 1, nil, false}, {wide(), field(10, mirror(0, 4, 0, 1, 0, 1)), 12, nil, false}, {wide(), field(10, mirror(1, 4, 10, 0)), 8, nil, false}, {wide(), field(10, mirror(1, 3, 10, 0)), 7, nil, false}, {wide(), field(10000000, mirror(0, 0, 10000000)), 7, []string{"m"}, false},
		{wide(), day(), 11, []string{"m"}, false}, {wide(), field(10, mirror(1, 0, 9), named("k", "n", mirror(0, 0, 9)), named("j", "n", mirror(3, 0, 9)), named("i", "n", mirror(0, 0, 2)), named("h", "n", mirror(1, 1, 9, 0))), 6, []string{"k", "i"}, false}, {wide(), field(10, mirror(1, 0, 9), named("k", "n", mirror(2, 0, 9)), named("j", "n", mirror(3, 0, 9))), 0, nil, true}, {wide(), field(10, mirror(1, 0, 9), named("k", "n", mirror(2, 1, 9, 1))), 1, nil, false},
		{chain(), beam.Field{Lease: 100, Mirrors: []beam.Mirror{mirror(15, 0, 0)}}, 400, []string{"m"}, false}, {chain(), beam.Field{Lease: 1, Mirrors: []beam.Mirror{mirror(15, 0, 0)}}, 301, []string{"m"}, false}, {chain(), beam.Field{Lease: 1, Mirrors: []beam.Mirror{mirror(0, 20, 0, slices.Repeat(ints(1, 0), 20)...)}}, 800, nil, false}, {chain(), beam.Field{Lease: 100, Mirrors: []beam.Mirror{mirror(14, 20, 0, append(slices.Repeat(ints(13, 14), 19), 15)...)}}, 400, nil, false},
	} {
		n, e1 := beam.Deadline(x.g, x.f)
		l, e2 := beam.Lit(x.g, x.f)
		dark, e3 := beam.Dark(x.g, x.f)
		if n != x.deadline || !slices.Equal(l, x.lit) || dark != x.dark || e1 != api.OK || e2 != api.OK || e3 != api.OK {
			t.Errorf("%d: Deadline %d, Lit %v, Dark %v, errors %d, %d and %d", i, n, l, dark, e1, e2, e3)
		}
	}
}

func TestFieldsAsDefined(t *testing.T) {
	rnd := rand.New(rand.NewSource(96))
	led, overdue, errors := 0, 0, map[api.Errno]int{}
	for range 1500 {
		g := netOf(randomGrid(rnd, between(rnd, 1, 6)))
		f := randomField(rnd, g, between(rnd, 1, 4))
		expect.Err(t, "CheckField", beam.CheckField(g.Grid, f), api.OK)
		for _, o := range randomOrders(rnd, g, 6) {
			got, e := beam.Heard(g.Grid, f, o)
			wanted := orderError(g, f, o)
			errors[wanted]++
			if wanted != api.OK {
				wantField(t, "Heard", got, e, beam.Field{}, wanted)
				continue
			}
			wantField(t, "Heard", got, e, heard(g, f, o), api.OK)
			if !sameField(got, f) {
				led++
			}
		}
		next := stepped(g, f)
		got, e := beam.Stepped(g.Grid, f)
		wantField(t, "Stepped", got, e, next, api.OK)
		for i, m := range next.Mirrors {
			if endOf(m) != endOf(f.Mirrors[i]) {
				overdue++
			}
		}
		n, e := beam.Deadline(g.Grid, f)
		expect.Result(t, "Deadline", n, e, deadline(g, f), api.OK)
		l, e := beam.Lit(g.Grid, f)
		expect.List(t, "Lit", l, e, standAt(g, f, "focus"), api.OK)
		dark, e := beam.Dark(g.Grid, f)
		expect.Result(t, "Dark", dark, e, isDark(g, f), api.OK)
	}
	if led < 200 || overdue < 200 || errors[api.ErrUnknown] < 200 || errors[api.ErrHeld] < 40 || errors[api.ErrNone] < 200 {
		t.Errorf("%d mirrors were led, %d sent home, and the errors are %v", led, overdue, errors)
	}
}

func TestRunAsDefined(t *testing.T) {
	rnd := rand.New(rand.NewSource(97))
	for range 500 {
		g := netOf(randomGrid(rnd, between(rnd, 2, 6)))
		f := randomField(rnd, g, between(rnd, 1, 4))
		var rounds [][]beam.Order
		for range between(rnd, 0, 40) {
			rounds = append(rounds, randomOrders(rnd, g, rnd.Intn(3)))
		}
		got, e := beam.Run(g.Grid, f, rounds)
		wantField(t, "Run", got, e, run(g, f, rounds), api.OK)
	}
}
