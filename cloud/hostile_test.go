package cloud_test

import (
	"math"
	"reflect"
	"slices"
	"strings"
	"testing"

	"spillage/api"
	"spillage/cloud"
	"spillage/expect"
	"spillage/light"
)

// P1: no function panics, for whatever arguments; each result depends on them alone.

func hostileNumbers() []int {
	return []int{math.MinInt, math.MinInt + 1, -1 << 32, -100001, -100000, -4097, -1001, -1000, -9, -1, 0, 1, 2, 4, 5, 8, 9, 63, 64, 65, 255, 256, 257, 1000, 1001, 4096, 4097, 10000, 10001, 100000, 100001, 1 << 32, 1<<32 + 1, math.MaxInt - 1, math.MaxInt}
}

// spoiltBy calls all functions with the right arguments after each of some changes.
func spoiltBy(changes ...func(a *arguments)) {
	expect.CallAfter(calls(), rightArguments, changes...)
}

func TestNoPanicOfNumbers(t *testing.T) {
	for _, n := range hostileNumbers() {
		spoiltBy(
			func(a *arguments) { a.image.Width = n }, func(a *arguments) { a.image.Height = n }, func(a *arguments) { a.image.Width, a.image.Height = n, n }, func(a *arguments) { a.other.Width = n }, func(a *arguments) { a.other.Width, a.other.Height = 12, n }, func(a *arguments) { a.other.Height = n },
			func(a *arguments) { a.shift = at(n, n) }, func(a *arguments) { a.shift = at(0, n) }, func(a *arguments) { a.most = n }, func(a *arguments) { a.least = n }, func(a *arguments) { a.most, a.least = n, n }, func(a *arguments) { a.ticks = n }, func(a *arguments) { a.blur = n }, func(a *arguments) { a.ticks, a.t = n, n }, func(a *arguments) { a.t = n }, func(a *arguments) { a.horizon = n },
			func(a *arguments) { a.drift.Ticks = n }, func(a *arguments) { a.drift.X = to(n, n) }, func(a *arguments) { a.drift.Y = to(n, 1) }, func(a *arguments) { a.drift.Y = to(1, n) }, func(a *arguments) { a.drift = during(n, to(-n, n), to(-n, n)) }, func(a *arguments) { a.second.X = to(n, n) }, func(a *arguments) { a.second.Ticks = n },
			func(a *arguments) { a.motion = at(n, -n) }, func(a *arguments) { a.motion, a.ticks, a.t = at(n, n), 1, 1000 }, func(a *arguments) { a.cell = at(n, n) }, func(a *arguments) { a.cell = at(0, n) }, func(a *arguments) { a.cells[0], a.cloud[0] = at(n, 0), at(n, 0) }, func(a *arguments) { a.cells[2], a.cloud[1] = at(0, n), at(0, n) },
			func(a *arguments) { a.height = to(n, n) }, func(a *arguments) { a.height = to(1, n) }, func(a *arguments) { a.sun = sun(n, n, 1) }, func(a *arguments) { a.sun = sun(0, 1, n) }, func(a *arguments) { a.sun = sun(n, n, n) }, func(a *arguments) { a.segment = line(n, n, -n, -n) }, func(a *arguments) { a.crossing = line(0, n, n, 0) }, func(a *arguments) { a.track[1] = at(n, n) }, func(a *arguments) { a.beams[0] = line(n, 0, 0, n) },
		)
	}
}

func TestNoPanicOfSamples(t *testing.T) {
	for _, x := range []float32{nan(), inf(1), inf(-1), 0, minusZero(), -1, 0.03125, 0.0625, 1024, -1024, 1024.0625, math.MaxFloat32, -math.MaxFloat32, math.SmallestNonzeroFloat32} {
		spoiltBy(
			func(a *arguments) { a.limit = x }, func(a *arguments) { a.image.Samples[0] = x }, func(a *arguments) { a.other.Samples[11] = x }, func(a *arguments) { a.image, a.other = flat(64, 64, x), flat(64, 64, x) }, func(a *arguments) { a.image = flat(1, 1, x) },
		)
	}
	spoiltBy(func(a *arguments) { a.image = light.Map{} }, func(a *arguments) { a.image.Samples = nil }, func(a *arguments) { a.other.Samples = a.other.Samples[:3] }, func(a *arguments) { *a = arguments{} })
}

func TestNoPanicOfLists(t *testing.T) {
	for _, n := range []int{0, 1, 2, 63, 64, 65, 255, 256, 257, 4096, 4097, 100000} {
		l, lines := make([]api.Point, n), make([][2]api.Point, n)
		spoiltBy(func(a *arguments) { a.cells, a.cloud, a.track, a.beams = l, l, l, lines }, func(a *arguments) { a.image = flat(64, 64, 1024); a.cells = l })
	}
}

func TestNoPanicOfTexts(t *testing.T) {
	for _, s := range append(wrongLines(), "\x00", "drift 0 0 0 0 0\n", "drift -999999999 999999999 -999999999 999999999 -999999999\n", strings.Repeat("drift 1 0 0 0 0\n", 300), strings.Repeat("x", 1000000)) {
		cloud.Parse(s)
	}
}

// cloned returns a copy of arguments that shares no memory with them.
func cloned(a arguments) arguments {
	a.image.Samples, a.other.Samples = slices.Clone(a.image.Samples), slices.Clone(a.other.Samples)
	a.cloud, a.cells, a.track, a.beams = slices.Clone(a.cloud), slices.Clone(a.cells), slices.Clone(a.track), slices.Clone(a.beams)
	return a
}

// clonedResults returns a copy of results that shares no memory with them.
func clonedResults(results []any) []any {
	out := slices.Clone(results)
	for i, x := range out {
		switch x := x.(type) {
		case []int:
			out[i] = slices.Clone(x)
		case []bool:
			out[i] = slices.Clone(x)
		case []api.Point:
			out[i] = slices.Clone(x)
		case []cloud.Cloud:
			clouds := slices.Clone(x)
			for k, c := range clouds {
				clouds[k] = slices.Clone(c)
			}
			out[i] = clouds
		}
	}
	return out
}

// spoil changes the elements of all lists among some results, and what may stand behind them in their memory.
func spoil(results []any) {
	for _, x := range results {
		switch x := x.(type) {
		case []int:
			expect.Fill(x, -7)
		case []bool:
			for i, is := range x[:cap(x)] {
				x[:cap(x)][i] = !is
			}
		case []api.Point:
			expect.Fill(x, at(-7, -7))
		case []cloud.Cloud:
			for _, c := range x {
				expect.Fill(c, at(-7, -7))
			}
		}
	}
}

// TestArgumentsStay checks that no call changes its arguments, shares memory with a result, or remembers anything.
func TestArgumentsStay(t *testing.T) {
	rich := rightArguments()
	rich.image, rich.cloud, rich.cells = shown(), append(make([]api.Point, 0, 9), rich.cloud...), append(make([]api.Point, 0, 9), rich.cells...)
	for _, a := range []arguments{rightArguments(), rich} {
		before := cloned(a)
		for _, x := range calls() {
			first, e := x.Do(a)
			wanted := clonedResults(first)
			spoil(first)
			if !reflect.DeepEqual(cloned(a), before) || slices.Contains(a.cells[:cap(a.cells)], at(-7, -7)) || slices.Contains(a.cloud[:cap(a.cloud)], at(-7, -7)) {
				t.Fatalf("%s changes its arguments, or shares memory with them", x.What)
			}
			again, f := x.Do(a)
			if !reflect.DeepEqual(clonedResults(again), wanted) || e != f {
				t.Errorf("%s: %v, error %d, and again %v, error %d", x.What, wanted, e, again, f)
			}
		}
	}
}

// TestCloudsShareNoMemory checks that the clouds of one result do not change one another.
func TestCloudsShareNoMemory(t *testing.T) {
	clouds, _ := cloud.Clouds(shown(), 1)
	wanted, _ := cloud.Clouds(shown(), 1)
	for i := range clouds {
		clouds[i] = append(clouds[i], points(9, 9, 9, 9, 9, 9, 9, 9)...)
	}
	for i, c := range wanted {
		if !slices.Equal(clouds[i][:len(c)], c) {
			t.Errorf("the cloud %d becomes %v", i, clouds[i])
		}
	}
}
