package grid_test

import (
	"math"
	"reflect"
	"slices"
	"strings"
	"testing"

	"spillage/api"
	"spillage/expect"
	"spillage/grid"
)

// P1: no function panics, for whatever arguments; each result depends on them alone.

func hostileNumbers() []int {
	return []int{math.MinInt, math.MinInt + 1, -1 << 32, -1<<20 - 1, -1 << 20, -100001, -100000, -2, -1, 0, 1, 2, 3, 4, 6, 7, 8, 9, 30, 31, 60, 61, 64, 65, 255, 256, 257, 365, 366, 1000, 1001, 10000, 10001, 100000, 100001, 1 << 20, 1<<20 + 1, 1 << 32, 1<<32 + 1, math.MaxInt - 1, math.MaxInt}
}

// spoiltBy calls all functions with the right arguments after each of some changes.
func spoiltBy(changes ...func(a *arguments)) {
	expect.CallAfter(calls(), rightArguments, changes...)
}

func TestNoPanicOfNumbers(t *testing.T) {
	for _, n := range hostileNumbers() {
		spoiltBy(
			func(a *arguments) { a.grid = z(n, n) }, func(a *arguments) { a.generator = z(0, n) }, func(a *arguments) { a.grid, a.generator = z(n, -n), z(-n, n) }, func(a *arguments) { a.grids[3], a.generators[0] = z(n, 0), z(0, n) }, func(a *arguments) { a.grids, a.generators = phasors(n, n, n, -n), phasors(-n, n, n, 0) }, func(a *arguments) { a.window = window(n, n, n, n) }, func(a *arguments) { a.window.Den = n }, func(a *arguments) { a.window.Most = n }, func(a *arguments) { a.hold = n }, func(a *arguments) { a.grid, a.generator, a.window = z(n, n), z(n, n), window(1000, 1, 0, 1000) },
			func(a *arguments) { a.plant = plant(n, n, n) }, func(a *arguments) { a.plant.Storage = n }, func(a *arguments) { a.plant.Level = n }, func(a *arguments) { a.plant.Most = n }, func(a *arguments) { a.plant = plant(60, n, 30) }, func(a *arguments) { a.quarters[1].Price = n }, func(a *arguments) { a.quarters[1].Heat = n }, func(a *arguments) { a.quarters = hours(n, n) }, func(a *arguments) { a.quarters = slices.Repeat(hours(n, 30), 8) }, func(a *arguments) { a.dispatch[1], a.values[1], a.offered[1], a.delivered[1] = n, n, n, n }, func(a *arguments) { a.dispatch = ints(n, -n, n) }, func(a *arguments) { a.values = ints(n, n, n) }, func(a *arguments) { a.fine = n },
			func(a *arguments) { a.stops[1][2] = n }, func(a *arguments) { a.stops[0][0] = n }, func(a *arguments) { a.stops = apart(3, n) }, func(a *arguments) { a.stops = apart(1, n) }, func(a *arguments) { a.stops = apart(2, n) }, func(a *arguments) { a.round[0] = n }, func(a *arguments) { a.round[2] = n }, func(a *arguments) { a.round = ints(n, n, n) }, func(a *arguments) { a.soil[0] = n }, func(a *arguments) { a.rate = n }, func(a *arguments) { a.washed[1][0] = n }, func(a *arguments) { a.soil, a.rate, a.washed = ints(n, n), n, [][]int{{n}, {n, n}} },
		)
	}
	spoiltBy(func(a *arguments) { *a = arguments{} })
}

func TestNoPanicOfSamples(t *testing.T) {
	for _, x := range []float32{nan(), inf(1), inf(-1), 0, minusZero(), -1, 0.03125, 0.0625, 1024, -1024, 1024.0625, math.MaxFloat32, -math.MaxFloat32, math.SmallestNonzeroFloat32} {
		spoiltBy(
			func(a *arguments) { a.four[2] = x }, func(a *arguments) { a.four = [4]float32{x, x, x, x} }, func(a *arguments) { a.vibration[5] = x }, func(a *arguments) { a.vibration = slices.Repeat([]float32{x}, 4096) }, func(a *arguments) { a.vibration = []float32{x} },
		)
	}
	for _, x := range []float64{math.NaN(), math.Inf(1), math.Inf(-1), 0, math.Copysign(0, -1), -1, 0.0625, 256, -256, 256.0625, math.MaxFloat64, -math.MaxFloat64, math.SmallestNonzeroFloat64, 1e18, 1e19} {
		spoiltBy(
			func(a *arguments) { a.responses[2] = complex(x, 0) }, func(a *arguments) { a.responses[0] = complex(-1, x) }, func(a *arguments) { a.responses = slices.Repeat([]complex128{complex(x, x)}, 64) }, func(a *arguments) { a.responses = []complex128{complex(x, -x)} },
		)
	}
}

func TestNoPanicOfLists(t *testing.T) {
	for _, n := range []int{0, 1, 2, 3, 4, 5, 7, 8, 9, 63, 64, 65, 255, 256, 257, 365, 366, 4096, 4097, 100000} {
		l := make([]int, n)
		spoiltBy(
			func(a *arguments) { a.grids, a.generators = make([]api.Gauss, n), make([]api.Gauss, n) }, func(a *arguments) { a.grids = still(n) }, func(a *arguments) { a.generators = still(n) }, func(a *arguments) { a.grids, a.generators, a.hold = still(n), still(n), 64 }, func(a *arguments) { a.vibration, a.responses = make([]float32, n), make([]complex128, n) },
			func(a *arguments) {
				a.quarters, a.dispatch, a.values, a.offered, a.delivered = make([]grid.Quarter, n), l, l, l, l
			}, func(a *arguments) { a.dispatch, a.values, a.offered, a.delivered, a.round, a.soil = l, l, l, l, l, l }, func(a *arguments) { a.stops = make([][]int, n) }, func(a *arguments) { a.stops = apart(min(n, 65), 1) }, func(a *arguments) { a.stops = [][]int{l} }, func(a *arguments) { a.stops, a.round = nil, l }, func(a *arguments) { a.stops, a.round = apart(min(n, 65), 1), l }, func(a *arguments) { a.washed = make([][]int, n) }, func(a *arguments) { a.washed = [][]int{l, l} }, func(a *arguments) { a.soil, a.washed = l, slices.Repeat([][]int{l}, 3) },
		)
	}
}

func TestNoPanicOfWords(t *testing.T) {
	for _, s := range []string{"", "a", "\x00", "\xff\xfe", strings.Repeat("a", 25), strings.Repeat("x", 1000000)} {
		spoiltBy(func(a *arguments) { a.names[1] = s }, func(a *arguments) { a.names = [3]string{s, s, s} }, func(a *arguments) { a.vibration, a.names[0] = nil, s })
		grid.Parse(s)
	}
	for _, s := range append(wrongLines(), "\x00", textOfP, strings.Repeat("\n", 4096), strings.Repeat(" ", 4096), "plant"+strings.Repeat(" 1", 2000)+"\n", strings.Repeat("plant 6 2 4\n", 300), "plant 6 2 4\n"+strings.Repeat("quarter 1 2\n", 340)) {
		grid.Parse(s)
		grid.Parse("plant 6 2 4\n" + s)
	}
}

// spareRows returns a copy of lists with room behind them, and behind each of them.
func spareRows(l [][]int) [][]int {
	l = expect.Spare(l)
	for i, row := range l {
		l[i] = expect.Spare(row)
	}
	return l
}

// spared returns a copy of arguments that shares no memory with them, and has room behind all lists.
func spared(a arguments) arguments {
	a.grids, a.generators, a.vibration, a.responses, a.quarters = expect.Spare(a.grids), expect.Spare(a.generators), expect.Spare(a.vibration), expect.Spare(a.responses), expect.Spare(a.quarters)
	a.dispatch, a.values, a.offered, a.delivered, a.round, a.soil = expect.Spare(a.dispatch), expect.Spare(a.values), expect.Spare(a.offered), expect.Spare(a.delivered), expect.Spare(a.round), expect.Spare(a.soil)
	a.stops, a.washed = spareRows(a.stops), spareRows(a.washed)
	return a
}

// behind returns all lists of arguments with what stands behind them in their memory.
func behind(a arguments) []any {
	out := []any{a.grids[:cap(a.grids)], a.generators[:cap(a.generators)], a.vibration[:cap(a.vibration)], a.responses[:cap(a.responses)], a.quarters[:cap(a.quarters)], a.stops[:cap(a.stops)], a.washed[:cap(a.washed)]}
	for _, l := range slices.Concat([][]int{a.dispatch, a.values, a.offered, a.delivered, a.round, a.soil}, a.stops, a.washed) {
		out = append(out, l[:cap(l)])
	}
	return out
}

// sparedResults returns a copy of results that shares no memory with them.
func sparedResults(results []any) []any {
	out := slices.Clone(results)
	for i, x := range out {
		switch x := x.(type) {
		case []int:
			out[i] = expect.Spare(x)
		case []grid.Shortfall:
			out[i] = expect.Spare(x)
		}
	}
	return out
}

// spoil changes the elements of all lists among some results.
func spoil(results []any) {
	for _, x := range results {
		switch x := x.(type) {
		case []int:
			expect.Fill(x, -7)
		case []grid.Shortfall:
			expect.Fill(x, grid.Shortfall{Quarter: -7})
		}
	}
}

// TestArgumentsStay checks that no call changes its arguments, shares memory with a result, or remembers anything.
func TestArgumentsStay(t *testing.T) {
	whole := rightArguments()
	whole.plant, whole.dispatch, whole.stops, whole.round, whole.washed = plant(60, 2, 0), ints(0, 0, 0), apart(1, 0), ints(0), nil
	for _, a := range []arguments{spared(rightArguments()), spared(whole)} {
		before := spared(a)
		for _, x := range calls() {
			first, e := x.Do(a)
			wanted := sparedResults(first)
			spoil(first)
			if !reflect.DeepEqual(a, before) || !reflect.DeepEqual(behind(a), behind(before)) {
				t.Fatalf("%s changes its arguments, or shares memory with them", x.What)
			}
			again, f := x.Do(a)
			if !reflect.DeepEqual(sparedResults(again), wanted) || e != f {
				t.Errorf("%s: %v, error %d, and again %v, error %d", x.What, wanted, e, again, f)
			}
		}
	}
}

// TestResultsShareNoMemory checks that one result does not change another one.
func TestResultsShareNoMemory(t *testing.T) {
	first, _, _ := grid.Dispatch(p(), day())
	second, _, _ := grid.Dispatch(p(), day())
	expect.Fill(first, 9)
	expect.List(t, "Dispatch", second, api.OK, ints(2, 4, 4), api.OK)
	_, a, _, _ := grid.Parse(textOfP)
	_, b, _, _ := grid.Parse(textOfP)
	expect.Fill(a, grid.Quarter{})
	expect.List(t, "Parse", b, api.OK, day(), api.OK)
}
