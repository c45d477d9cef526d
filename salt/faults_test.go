package salt_test

import (
	"slices"
	"strings"

	"spillage/api"
	"spillage/expect"
	"spillage/salt"
)

// What can be wrong with each argument.

type fault = expect.Fault[arguments]

// faults returns the faults of each argument.
func faults() map[string][]fault {
	cycles := func(a *arguments, l []salt.Cycle) { a.cycles = l }
	index := func(a *arguments, n int) { a.index = n }
	return map[string][]fault{
		"rules":    rulesFaults(),
		"receiver": receiverFaults(),
		"step":     stepFaults(func(a *arguments, s salt.Step) { a.step = s }),
		"steps":    stepsFaults(),
		"told":     toldFaults(),
		"history":  historyFaults(func(a *arguments, l []int) { a.history = l }),
		"rest":     historyFaults(func(a *arguments, l []int) { a.rest = l }),
		"cycles": slices.Concat(
			expect.Faults(api.ErrMany, cycles, make([]salt.Cycle, 257), slices.Repeat([]salt.Cycle{{From: 100001}}, 257)),
			expect.Ranged(-100000, 100000, func(a *arguments, n int) { a.cycles[0].From = n }), expect.Ranged(-100000, 100000, func(a *arguments, n int) { a.cycles[1].To = n }), expect.Ranged(-100000, 100000, func(a *arguments, n int) { a.cycles = append(make([]salt.Cycle, 255), salt.Cycle{From: n, To: n}) }),
		),
		"classes": classesFaults(),
		"tank":    tankFaults(),
		"index":   expect.Faults(api.ErrUnknown, index, expect.Outside(0, 1)...),
		"amount":  expect.Ranged(1, 1000000, func(a *arguments, n int) { a.amount = n }),
		"heat":    expect.Ranged(0, 1000000000, func(a *arguments, n int) { a.heat = n }),
		"share": slices.Concat(
			expect.Ranged(1, 1000, func(a *arguments, n int) { a.den = n }), expect.Ranged(1, 1000, func(a *arguments, n int) { a.num, a.den = 0, n }), expect.Ranged(1, 1000, func(a *arguments, n int) { a.num, a.den = n, n }),
			expect.Ranged(0, 100, func(a *arguments, n int) { a.num = n }), expect.Ranged(0, 1, func(a *arguments, n int) { a.num, a.den = n, 1 }), expect.Ranged(0, 1000, func(a *arguments, n int) { a.num, a.den = n, 1000 }),
		),
	}
}

// rulesFaults has rules whose later numbers are wrong, too.
func rulesFaults() []fault {
	put := func(a *arguments, r salt.Rules) { a.rules = r }
	var l []fault
	for _, x := range []struct {
		low, high int
		of        func(r *salt.Rules) *int
	}{
		{1, 1000, func(r *salt.Rules) *int { return &r.Capacity }}, {0, 100000, func(r *salt.Rules) *int { return &r.Loss }}, {0, 1000, func(r *salt.Rules) *int { return &r.Freeze }}, {0, 1000, func(r *salt.Rules) *int { return &r.Ready }}, {0, 1000, func(r *salt.Rules) *int { return &r.Hot }}, {0, 1000, func(r *salt.Rules) *int { return &r.Cold }},
	} {
		l = slices.Concat(l,
			expect.Ranged(x.low, x.high, func(a *arguments, n int) { *x.of(&a.rules) = n }),
			expect.Ranged(x.low, x.high, func(a *arguments, n int) {
				a.rules = salt.Rules{Capacity: 1, Freeze: 5, Ready: 5, Hot: 5, Cold: 9}
				*x.of(&a.rules) = n
			}),
		)
	}
	ordered := func(freeze, ready, hot, cold int) salt.Rules {
		return salt.Rules{Capacity: 10, Freeze: freeze, Ready: ready, Hot: hot, Cold: cold}
	}
	return slices.Concat(l,
		expect.Faults(api.ErrOrder, put, ordered(30, 30, 60, 30), ordered(31, 30, 60, 40), ordered(20, 60, 60, 30), ordered(20, 61, 60, 30), ordered(60, 30, 20, 30), ordered(0, 0, 0, 0), ordered(1000, 1000, 1000, 1000), ordered(30, 30, 60, 10), ordered(20, 60, 60, 61), ordered(0, 60, 60, 1000)),
		expect.Faults(api.ErrBand, put, ordered(20, 30, 60, 19), ordered(20, 30, 60, 61), ordered(20, 30, 60, 0), ordered(20, 30, 60, 1000), ordered(1, 2, 3, 0), ordered(997, 998, 999, 1000)),
	)
}

// wrongWords are neither states nor acts.
func wrongWords() []string {
	return []string{"", " ", "full", "go", "Empty", "WAIT", "empty ", " wait", "running\n", "waits", "fil", "empty\x00", "\xff", strings.Repeat("wait", 1000)}
}

func receiverFaults() []fault {
	l := expect.Faults(api.ErrKind, func(a *arguments, state string) { a.receiver.State = state }, append(wrongWords(), wait, fill, drain, start, stop)...)
	for _, heat := range []int{-1, 1000000001} {
		l = append(l, expect.Faults(api.ErrKind, func(a *arguments, state string) { a.receiver = at(state, heat) }, wrongWords()...)...)
	}
	for _, state := range []string{empty, filled, running} {
		l = append(l, expect.Ranged(0, 1000000000, func(a *arguments, n int) { a.receiver = at(state, n) })...)
	}
	return l
}

func stepFaults(put func(a *arguments, s salt.Step)) []fault {
	act := func(light, flow int) []fault {
		return expect.Faults(api.ErrKind, func(a *arguments, act string) { put(a, step(act, light, flow)) }, append(wrongWords(), empty, filled, running)...)
	}
	return slices.Concat(
		act(0, 0), act(-1, 0), act(0, 11),
		expect.Ranged(0, 1000000, func(a *arguments, n int) { put(a, step(wait, n, 0)) }), expect.Ranged(0, 1000000, func(a *arguments, n int) { put(a, step(stop, n, 5)) }), expect.Ranged(0, 1000000, func(a *arguments, n int) { put(a, step(start, n, 11)) }),
		expect.Ranged(0, 10, func(a *arguments, n int) { put(a, step(wait, 0, n)) }), expect.Ranged(0, 10, func(a *arguments, n int) { put(a, step(start, 1000000, n)) }),
	)
}

// stepsFaults has steps that are wrong behind one that fails, too.
func stepsFaults() []fault {
	put := func(a *arguments, l []salt.Step) { a.steps = l }
	return slices.Concat(
		expect.Faults(api.ErrMany, put, make([]salt.Step, 257), slices.Repeat(steps(step(wait, 0, 0)), 257), slices.Repeat(steps(step(wait, -1, 0)), 100000)),
		stepFaults(func(a *arguments, s salt.Step) { a.steps[0] = s }), stepFaults(func(a *arguments, s salt.Step) { a.steps[2] = s }), stepFaults(func(a *arguments, s salt.Step) { a.steps = steps(step(drain, 0, 0), step(stop, 0, 9), s) }),
		stepFaults(func(a *arguments, s salt.Step) { a.steps = append(slices.Repeat(steps(step(wait, 0, 0)), 255), s) }),
		expect.Faults(api.ErrKind, put, steps(step("go", 0, 0), step(wait, -1, 0))), expect.Faults(api.ErrRange, put, steps(step(wait, -1, 0), step("go", 0, 0)), steps(step(wait, 0, 11), step("go", 0, 0))),
	)
}

// toldFaults has those of steps, too.
func toldFaults() []fault {
	put := func(a *arguments, l []salt.Told) { a.told = l }
	last := func(a *arguments, t salt.Told) { a.told = append(a.told, t) }
	return slices.Concat(
		expect.Faults(api.ErrMany, put, make([]salt.Told, 257), slices.Repeat(tolds(told(wait, 2, 1, 0)), 257)),
		stepFaults(func(a *arguments, s salt.Step) { a.told[0] = told(s.Act, s.Light, s.Light, s.Flow) }), stepFaults(func(a *arguments, s salt.Step) { a.told = append(a.told, told(s.Act, s.Light, s.Light, s.Flow)) }), stepFaults(func(a *arguments, s salt.Step) {
			a.told = tolds(told(drain, 0, 0, 0), told(stop, 0, 9, 9), told(s.Act, s.Light, s.Light, s.Flow))
		}),
		expect.Ranged(0, 1000000, func(a *arguments, n int) { last(a, told(wait, n, 5, 0)) }), expect.Ranged(0, 1000000, func(a *arguments, n int) { last(a, told(wait, 5, n, 0)) }), expect.Ranged(0, 1000000, func(a *arguments, n int) { last(a, told(wait, 1000000, n, 11)) }),
		expect.Faults(api.ErrOrder, last, told(wait, 1, 0, 0), told(start, 1000000, 0, 0), told(wait, 1000000, 999999, 0), told(wait, 2, 1, 11), told(stop, 2, 1, -1)), expect.Faults(api.ErrKind, last, told("go", 2, 1, 0), told("", -1, 5, 11)),
		expect.Faults(api.ErrKind, put, tolds(told("go", 0, 0, 0), told(wait, 2, 1, 0))), expect.Faults(api.ErrOrder, put, tolds(told(wait, 2, 1, 0), told("go", 0, 0, 0))),
	)
}

func historyFaults(put func(a *arguments, l []int)) []fault {
	return slices.Concat(
		expect.Faults(api.ErrMany, put, make([]int, 257), slices.Repeat(ints(100001), 257), make([]int, 100000)),
		expect.Ranged(-100000, 100000, func(a *arguments, n int) { put(a, ints(n)) }), expect.Ranged(-100000, 100000, func(a *arguments, n int) { put(a, ints(0, 5, n)) }), expect.Ranged(-100000, 100000, func(a *arguments, n int) { put(a, append(make([]int, 255), n)) }),
	)
}

func classesFaults() []fault {
	put := func(a *arguments, l []salt.Class) { a.classes = l }
	last := func(a *arguments, x salt.Class) { a.classes = append(a.classes, x) }
	return slices.Concat(
		expect.Faults(api.ErrEmpty, put, nil, classes()),
		expect.Faults(api.ErrMany, put, make([]salt.Class, 17), stairs(17), stairs(1000)),
		expect.Ranged(1, 200000, func(a *arguments, n int) { last(a, salt.Class{Range: n, Damage: 300}) }), expect.Ranged(1, 200000, func(a *arguments, n int) { a.classes = []salt.Class{{Range: n, Damage: n}} }), expect.Ranged(0, 1000000, func(a *arguments, n int) { last(a, salt.Class{Range: 6, Damage: n}) }), expect.Ranged(0, 1000000, func(a *arguments, n int) { last(a, salt.Class{Range: 5, Damage: n}) }), expect.Ranged(0, 1000000, func(a *arguments, n int) { a.classes[0].Damage = n }),
		expect.Faults(api.ErrOrder, put, classes(1, 5, 2, 5), classes(2, 5, 2, 6), classes(1, 5, 2, 4), classes(2, 5, 1, 6), classes(2, 5, 2, 5), classes(2, 5, 1, 4), classes(1, 10, 5, 200, 4, 300), classes(1, 10, 5, 200, 6, 200), classes(2, 5, 2, 5, 0, 6), classes(200000, 1000000, 200000, 1000000)),
		expect.Faults(api.ErrRange, put, classes(1, 5, 0, 5), classes(1, 5, 1, -1), classes(0, 5, 0, 5), classes(1, 1000001, 1, 5)),
	)
}

func tankFaults() []fault {
	put := func(a *arguments, t salt.Tank) { a.tank = t }
	layers := func(a *arguments, l []int) { a.tank = tank(100, l...) }
	return slices.Concat(
		expect.Ranged(1, 1000000, func(a *arguments, n int) { a.tank.Room = n }), expect.Ranged(1, 1000000, func(a *arguments, n int) { a.tank = tank(n, make([]int, 34)...) }),
		expect.Faults(api.ErrMany, put, tower(17), tower(1000), tank(100, make([]int, 34)...)),
		expect.Ranged(1, 1000000, func(a *arguments, n int) { a.tank.Layers[0].Amount = n }), expect.Ranged(1, 1000000, func(a *arguments, n int) { a.tank.Layers[1].Amount = n }), expect.Ranged(1, 1000000, func(a *arguments, n int) { a.tank = tank(100, n, -1, 1, 0) }), expect.Ranged(0, 1000000000, func(a *arguments, n int) { a.tank.Layers[0].Heat = n }), expect.Ranged(0, 1000000000, func(a *arguments, n int) { a.tank.Layers[1].Heat = n }), expect.Ranged(0, 1000000000, func(a *arguments, n int) { a.tank = tank(1, 1000000, 0, 1000000, n) }),
		expect.Faults(api.ErrRange, layers, ints(5, 5, 0, 5), ints(5, 5, 5, -1), ints(0, 5, 5, 1), ints(101, 1000000001)),
		expect.Faults(api.ErrOrder, layers, ints(1, 2, 2, 4), ints(1, 3, 2, 4), ints(1, 0, 1, 0), ints(5, 10, 1, 1), ints(3, 5, 2, 3, 2, 3), ints(3, 5, 5, 8), ints(1, 0, 2, 8, 1, 4), ints(1, 0, 2, 8, 1, 3, 0, 0), ints(200, 200, 1, 1), ints(1, 1000000000, 1, 1000000000), ints(999999, 999999999, 1000000, 1000000000)),
		expect.Faults(api.ErrLarge, put, tank(100, 101, 0), tank(100, 60, 0, 41, 41), tank(1, 1, 0, 1, 1), tank(1000000, 1000000, 0, 1, 1), tank(2, 2, 500000001, 1, 500000000)),
		expect.Faults(api.ErrOver, put, tank(100, 2, 500000001, 1, 500000000), tank(100, 1, 1, 1, 1000000000), tank(3, 2, 400000000, 1, 600000001)),
	)
}
