package salt_test

import (
	"math"
	"reflect"
	"slices"
	"strings"
	"testing"

	"spillage/api"
	"spillage/expect"
	"spillage/salt"
)

// P1: no function panics, for whatever arguments; each result depends on them alone.

func hostileNumbers() []int {
	return []int{math.MinInt, math.MinInt + 1, -1 << 32, -100001, -100000, -2, -1, 0, 1, 2, 3, 9, 10, 11, 15, 16, 17, 255, 256, 257, 999, 1000, 1001, 99999, 100000, 100001, 200000, 200001, 999999, 1000000, 1000001, 1 << 32, 1<<32 + 1, 999999999, 1000000000, 1000000001, math.MaxInt - 1, math.MaxInt}
}

// spoiltBy calls all functions with the right arguments after each of some changes.
func spoiltBy(changes ...func(a *arguments)) {
	expect.CallAfter(calls(), rightArguments, changes...)
}

func TestNoPanicOfNumbers(t *testing.T) {
	for _, n := range hostileNumbers() {
		spoiltBy(
			func(a *arguments) { a.rules.Capacity = n }, func(a *arguments) { a.rules.Loss = n }, func(a *arguments) { a.rules.Freeze = n }, func(a *arguments) { a.rules.Ready = n }, func(a *arguments) { a.rules.Hot = n }, func(a *arguments) { a.rules.Cold = n }, func(a *arguments) {
				a.rules = salt.Rules{Capacity: n, Loss: n, Freeze: n, Ready: n, Hot: n, Cold: n}
			}, func(a *arguments) { a.rules.Capacity, a.receiver.Heat = n, n }, func(a *arguments) { a.receiver.Heat = n }, func(a *arguments) { a.receiver = at(running, n); a.step = step(wait, n, n) }, func(a *arguments) { a.step = step(start, 0, n) }, func(a *arguments) { a.rules.Capacity, a.step = n, step(start, n, n) },
			func(a *arguments) { a.steps[1].Light = n }, func(a *arguments) { a.steps[0].Flow = n }, func(a *arguments) { a.told[2].Light = to(n, n) }, func(a *arguments) { a.told[0].Light.High = n }, func(a *arguments) { a.told[0].Light.Low = n }, func(a *arguments) { a.told[1].Flow = n }, func(a *arguments) { a.receiver = at(running, n); a.told = tolds(told(wait, 0, n, 10)) },
			func(a *arguments) { a.history, a.rest = ints(n), ints(0, n) }, func(a *arguments) { a.history, a.rest = ints(n, -n, n, -n, n), ints(n, -n) }, func(a *arguments) { a.cycles = cycles(n, n) }, func(a *arguments) { a.cycles = cycles(0, 0, n, -n) }, func(a *arguments) { a.classes = classes(n, n) }, func(a *arguments) { a.classes = classes(1, 0, n, n) }, func(a *arguments) { a.classes[0].Damage = n },
			func(a *arguments) { a.tank.Room = n }, func(a *arguments) { a.tank.Layers[0].Amount = n }, func(a *arguments) { a.tank.Layers[1].Heat = n }, func(a *arguments) { a.tank = tank(n, n, n, n, n) }, func(a *arguments) { a.tank, a.amount, a.heat = tank(n), n, n }, func(a *arguments) { a.index = n }, func(a *arguments) { a.amount = n }, func(a *arguments) { a.heat = n }, func(a *arguments) { a.num = n }, func(a *arguments) { a.den = n }, func(a *arguments) { a.num, a.den = n, n }, func(a *arguments) { a.tank, a.index = tank(100), n },
		)
	}
	spoiltBy(func(a *arguments) { *a = arguments{} })
}

func TestNoPanicOfLists(t *testing.T) {
	for _, n := range []int{0, 1, 2, 3, 4, 15, 16, 17, 255, 256, 257, 100000} {
		spoiltBy(
			func(a *arguments) { a.steps, a.told = make([]salt.Step, n), make([]salt.Told, n) }, func(a *arguments) { a.steps = slices.Repeat(steps(step(wait, 30, 0)), n) }, func(a *arguments) { a.told = slices.Repeat(tolds(told(wait, 30, 30, 0)), n) }, func(a *arguments) { a.history, a.rest = make([]int, n), make([]int, n) }, func(a *arguments) { a.history = slices.Repeat(ints(0, 1), n/2) }, func(a *arguments) { a.cycles, a.classes = make([]salt.Cycle, n), make([]salt.Class, n) }, func(a *arguments) { a.classes = stairs(n) }, func(a *arguments) { a.tank.Layers = make([]salt.Layer, n) }, func(a *arguments) { a.tank = tower(n) }, func(a *arguments) { a.tank = tower(min(n, 16)); a.amount = n },
		)
	}
}

func TestNoPanicOfWords(t *testing.T) {
	for _, s := range append(wrongWords(), empty, filled, running, wait, fill, drain, start, stop, strings.Repeat("x", 1000000)) {
		spoiltBy(func(a *arguments) { a.receiver.State = s }, func(a *arguments) { a.step.Act = s }, func(a *arguments) { a.steps[1].Act, a.told[1].Act = s, s }, func(a *arguments) { a.receiver.State, a.step.Act = s, s })
		salt.Parse(s)
	}
	for _, s := range append(wrongLines(), "\x00", textOfT, strings.Repeat("\n", 4096), strings.Repeat(" ", 4096), "tank"+strings.Repeat(" 1", 2000)+"\n", strings.Repeat("tank 1\n", 500), "tank 1\n"+strings.Repeat("layer 0 0\n", 400)) {
		salt.Parse(s)
		salt.Parse("tank 100\n" + s)
	}
}

// spared returns a copy of arguments that shares no memory with them, and has room behind all lists.
func spared(a arguments) arguments {
	a.steps, a.told, a.history, a.cycles, a.rest, a.classes, a.tank.Layers = expect.Spare(a.steps), expect.Spare(a.told), expect.Spare(a.history), expect.Spare(a.cycles), expect.Spare(a.rest), expect.Spare(a.classes), expect.Spare(a.tank.Layers)
	return a
}

// behind returns all lists of arguments with what stands behind them in their memory.
func behind(a arguments) []any {
	return []any{a.steps[:cap(a.steps)], a.told[:cap(a.told)], a.history[:cap(a.history)], a.cycles[:cap(a.cycles)], a.rest[:cap(a.rest)], a.classes[:cap(a.classes)], a.tank.Layers[:cap(a.tank.Layers)]}
}

// sparedResults returns a copy of results that shares no memory with them.
func sparedResults(results []any) []any {
	out := slices.Clone(results)
	for i, x := range out {
		switch x := x.(type) {
		case []int:
			out[i] = expect.Spare(x)
		case []salt.Cycle:
			out[i] = expect.Spare(x)
		case salt.Tank:
			x.Layers = expect.Spare(x.Layers)
			out[i] = x
		}
	}
	return out
}

// spoil changes the elements of all lists among some results.
func spoil(results []any) {
	for _, x := range results {
		switch x := x.(type) {
		case []int:
			expect.Fill(x, -7)
		case []salt.Cycle:
			expect.Fill(x, salt.Cycle{From: -7})
		case salt.Tank:
			expect.Fill(x.Layers, salt.Layer{Amount: -7})
		}
	}
}

// TestArgumentsStay checks that no call changes its arguments, shares memory with a result, or remembers anything.
func TestArgumentsStay(t *testing.T) {
	whole := rightArguments()
	whole.history, whole.amount, whole.heat, whole.num = ints(0, 5, 3), 20, 400, 0
	for _, a := range []arguments{spared(rightArguments()), spared(whole)} {
		before := spared(a)
		for _, x := range calls() {
			first, e := x.Do(a)
			wanted := sparedResults(first)
			spoil(first)
			if !reflect.DeepEqual(a, before) || !reflect.DeepEqual(behind(a), behind(before)) {
				t.Fatalf("%s changes its arguments, or shares memory with them", x.What)
			}
			again, f := x.Do(a)
			if !reflect.DeepEqual(sparedResults(again), wanted) || e != f {
				t.Errorf("%s: %v, error %d, and again %v, error %d", x.What, wanted, e, again, f)
			}
		}
	}
}

// TestResultsShareNoMemory checks that the lists of one result do not change one another.
func TestResultsShareNoMemory(t *testing.T) {
	c, rest, e := salt.Rainflow(ints(0, 5, 3, 4, -1))
	expect.Fill(rest, 9)
	expect.List(t, "the cycles after a change of the rest", c, e, cycles(3, 4), api.OK)
	first, _, _ := salt.Parse(textOfT)
	second, _, _ := salt.Parse(textOfT)
	expect.Fill(first.Layers, salt.Layer{})
	if !sameTank(second, shown()) {
		t.Errorf("Parse shares memory: %v", second)
	}
}
