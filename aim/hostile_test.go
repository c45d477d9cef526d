package aim_test

import (
	"math"
	"reflect"
	"slices"
	"strings"
	"testing"

	"spillage/aim"
	"spillage/api"
	"spillage/expect"
	"spillage/light"
)

// P1: no function panics, for whatever arguments; each result depends on them alone.

func hostileNumbers() []int {
	return []int{math.MinInt, math.MinInt + 1, -1 << 32, -1000001, -101, -4, -2, -1, 0, 1, 3, 4, 8, 9, 32, 33, 64, 100, 101, 1000000, 1000001, 1 << 32, 1<<32 + 1, math.MaxInt - 1, math.MaxInt}
}

func hostileReceivers() []aim.Receiver {
	l := []aim.Receiver{{}, shown(60), receiver(8, 8, flat(64, 1000000)...), receiver(1, 1, 0), receiver(8, 8, flat(100000, 1)...)}
	for _, n := range hostileNumbers() {
		l = append(l, receiver(n, 1, 1), receiver(1, n, 1), receiver(n, n), receiver(n, -n, 1), receiver(3, 1, n, n, n), receiver(1<<32, n, 1, 2))
	}
	return l
}

func hostileSpots() []aim.Spot {
	name := strings.Repeat("x", 1000000)
	l := spots(aim.Spot{}, spotS(), spotT(), greatest(), altered(func(x *aim.Spot) { x.Name = name }), altered(func(x *aim.Spot) { x.Aims = make([]api.Point, 100000) }))
	for _, n := range hostileNumbers() {
		l = append(l, altered(func(x *aim.Spot) { x.Wrong = n }), altered(func(x *aim.Spot) { x.Aims = points(n, n) }), altered(func(x *aim.Spot) { x.Map.Width = n }), altered(func(x *aim.Spot) { x.Map.Height = n }), altered(func(x *aim.Spot) { x.Map = light.Map{Width: n, Height: n, Samples: make([]float32, 81)} }))
	}
	for _, sample := range []float32{float32(math.NaN()), float32(math.Inf(1)), float32(math.Inf(-1)), math.MaxFloat32, -math.MaxFloat32, math.SmallestNonzeroFloat32, float32(math.Copysign(0, -1)), 1e9} {
		l = append(l, altered(func(x *aim.Spot) { x.Map.Samples = []float32{1, sample} }))
	}
	return l
}

// hostileLists are lists of numbers that may be plans, prices or orders.
func hostileLists() [][]int {
	l := [][]int{nil, {}, ints(0, aim.None), ints(1, 1), make([]int, 32), make([]int, 64), make([]int, 100000)}
	for _, n := range hostileNumbers() {
		l = append(l, ints(n), ints(n, 0), ints(0, n), ints(n, n, n))
	}
	return l
}

func TestNoPanicOfReceivers(t *testing.T) {
	for _, r := range hostileReceivers() {
		a := rightArguments()
		a.r = r
		expect.CallAll(calls(), a)
		a.p, a.l, a.prices = flat(8, 0), pixels(8, 1000), flat(64, 100000)
		expect.CallAll(calls(), a)
	}
}

func TestNoPanicOfSpots(t *testing.T) {
	for _, x := range hostileSpots() {
		for _, r := range []aim.Receiver{{}, shown(60), receiver(8, 8, flat(64, 1000000)...)} {
			a := rightArguments()
			a.r, a.s, a.l = r, x, spots(x, spotT())
			expect.CallAll(calls(), a)
			a.l = spots(x, x)
			expect.CallAll(calls(), a)
		}
	}
	for _, l := range [][]aim.Spot{nil, make([]aim.Spot, 2), make([]aim.Spot, 33), make([]aim.Spot, 10000), pixels(32, 1000)} {
		a := rightArguments()
		a.l = l
		expect.CallAll(calls(), a)
		a.p, a.q = make([]int, len(l)), make([]int, len(l))
		expect.CallAll(calls(), a)
	}
}

func TestNoPanicOfLists(t *testing.T) {
	for _, l := range hostileLists() {
		for _, change := range []func(a *arguments){
			func(a *arguments) { a.p = l }, func(a *arguments) { a.q = l }, func(a *arguments) { a.prices = l }, func(a *arguments) { a.order = l }, func(a *arguments) { a.p, a.q, a.prices, a.order = l, l, l, l }, func(a *arguments) { a.l = make([]aim.Spot, len(l)) }, func(a *arguments) { a.r.Limits = l },
		} {
			expect.CallAfter(calls(), rightArguments, change)
		}
	}
	for _, n := range hostileNumbers() {
		a := rightArguments()
		a.index = n
		expect.CallAll(calls(), a)
		for _, m := range hostileNumbers() {
			aim.Limits([]aim.Step{{Heat: 5, Limit: 5}, {Heat: n, Limit: m}}, ints(n, m))
			aim.Limits([]aim.Step{{Heat: n, Limit: m}}, ints(0))
			aim.Limits(heats(), ints(n, m))
		}
	}
	aim.Limits(make([]aim.Step, 100000), nil)
	aim.Limits(nil, make([]int, 100000))
}

func TestNoPanicOfTexts(t *testing.T) {
	for _, s := range []string{
		"", "\n", " ", "aim", "aim\n", "aim \n", "aim s\n", "aim s none", "\xff\xfe", "aim \xff\n", "aim s 999999999 -999999999\n", strings.Repeat("\n", 4096), strings.Repeat(" ", 4096), strings.Repeat("aim\n", 1024), strings.Repeat("aim s none\n", 300), strings.Repeat("x", 1000000), "aim s" + strings.Repeat(" 1", 2000) + "\n",
	} {
		for _, l := range [][]aim.Spot{nil, spots(spotS()), spots(spotS(), spotT()), make([]aim.Spot, 40), pixels(32, 1)} {
			aim.Parse(l, s)
		}
	}
}

// cloned returns a copy of arguments that shares no memory with them.
func cloned(a arguments) arguments {
	clone := func(x aim.Spot) aim.Spot {
		x.Map.Samples, x.Aims = slices.Clone(x.Map.Samples), slices.Clone(x.Aims)
		return x
	}
	a.r.Limits, a.s, a.l = slices.Clone(a.r.Limits), clone(a.s), slices.Clone(a.l)
	for i, x := range a.l {
		a.l[i] = clone(x)
	}
	a.p, a.q, a.prices, a.order = slices.Clone(a.p), slices.Clone(a.q), slices.Clone(a.prices), slices.Clone(a.order)
	return a
}

// spoilt changes the elements of all lists among some results.
func spoilt(results []any) {
	for _, x := range results {
		if l, ok := x.([]int); ok {
			for i := range l {
				l[i] += 1000
			}
		}
	}
}

// TestArgumentsStay checks that no call changes its arguments, shares memory with a result, or remembers anything.
func TestArgumentsStay(t *testing.T) {
	hot := rightArguments()
	hot.r, hot.p, hot.q = shown(39), ints(1, 1), ints(0, 0)
	for _, a := range []arguments{rightArguments(), hot} {
		before := cloned(a)
		for _, x := range calls() {
			first, e := x.Do(a)
			wanted := slices.Clone(first)
			for i, part := range wanted {
				if l, ok := part.([]int); ok {
					wanted[i] = slices.Clone(l)
				}
			}
			spoilt(first)
			if !reflect.DeepEqual(a, before) {
				t.Fatalf("%s changes its arguments, or shares memory with them", x.What)
			}
			again, f := x.Do(a)
			if !reflect.DeepEqual(again, wanted) || e != f {
				t.Errorf("%s: %v, error %d, and again %v, error %d", x.What, wanted, e, again, f)
			}
		}
	}
	table, heat := heats(), ints(0, 150)
	l, _ := aim.Limits(table, heat)
	spoilt([]any{l})
	if !slices.Equal(table, heats()) || !slices.Equal(heat, ints(0, 150)) {
		t.Errorf("Limits changes its arguments: %v %v", table, heat)
	}
}
