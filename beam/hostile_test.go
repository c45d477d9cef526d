package beam_test

import (
	"math"
	"reflect"
	"slices"
	"strings"
	"testing"

	"spillage/api"
	"spillage/beam"
	"spillage/expect"
)

// P1: no function panics, for whatever arguments; each result depends on them alone.

func hostileNumbers() []int {
	return []int{math.MinInt, math.MinInt + 1, -1 << 32, -1001, -2, -1, 0, 1, 3, 4, 5, 6, 15, 16, 17, 20, 21, 40, 41, 100, 101, 256, 500, 501, 1000, 1001, api.MaxTick, api.MaxTick + 1, 1 << 32, 1<<32 + 1, math.MaxInt - 1, math.MaxInt}
}

// spoiltBy calls all functions with the right arguments after each of some changes.
func spoiltBy(changes ...func(a *arguments)) {
	expect.CallAfter(calls(), rightArguments, changes...)
}

func TestNoPanicOfNumbers(t *testing.T) {
	for _, n := range hostileNumbers() {
		spoiltBy(
			func(a *arguments) { a.g.Blur = n }, func(a *arguments) { a.g.Stations[1].Place = at(n, n) }, func(a *arguments) { a.g.Moves[1] = move(n, 1, 1) }, func(a *arguments) { a.g.Moves[1] = move(0, n, 1) }, func(a *arguments) { a.g.Moves[1] = move(n, n, n) }, func(a *arguments) { a.g.Moves[1].Steps = n }, func(a *arguments) { a.g.Zones[0].Centre = at(n, n) }, func(a *arguments) { a.g.Zones[0].Radius = n },
			func(a *arguments) { a.z = zone("z", n, n, n) }, func(a *arguments) { a.z.Radius = n }, func(a *arguments) { a.blur = n }, func(a *arguments) { a.line[0] = at(n, n) }, func(a *arguments) { a.line[1] = at(0, n) }, func(a *arguments) { a.from = n }, func(a *arguments) { a.to = n }, func(a *arguments) { a.from, a.to = n, n },
			func(a *arguments) { a.f.Tick = n }, func(a *arguments) { a.f.Lease = n }, func(a *arguments) { a.f.Mirrors[0].At = n }, func(a *arguments) { a.f.Mirrors[1].At = n }, func(a *arguments) { a.f.Mirrors[1].Way[0] = n }, func(a *arguments) { a.f.Mirrors[1].Way[1] = n }, func(a *arguments) { a.f.Mirrors[0].Left = n }, func(a *arguments) { a.f.Mirrors[1].Left = n }, func(a *arguments) { a.f.Mirrors[0].Heard = n }, func(a *arguments) { a.f.Tick, a.f.Mirrors[0].Heard = n, n }, func(a *arguments) { a.m.At = n }, func(a *arguments) { a.m.Left, a.m.Heard = n, n }, func(a *arguments) { a.m.Way = ints(n) },
			func(a *arguments) { a.g.Stations, a.f.Mirrors[0].At = nil, n }, func(a *arguments) { a.g.Stations = a.g.Stations[:max(0, min(n, 6))] },
		)
	}
}

func TestNoPanicOfLists(t *testing.T) {
	lists := [][]int{nil, {}, ints(0), ints(0, 1), ints(3, 2), ints(held), make([]int, 16), make([]int, 17), make([]int, 40), make([]int, 41), make([]int, 100000)}
	for _, n := range hostileNumbers() {
		lists = append(lists, ints(n), ints(0, n), ints(n, 0), slices.Repeat(ints(n), 40))
	}
	for _, l := range lists {
		spoiltBy(
			func(a *arguments) { a.way = l }, func(a *arguments) { a.set = l }, func(a *arguments) { a.f.Mirrors[0].Way = l }, func(a *arguments) { a.f.Mirrors[1].Way = l }, func(a *arguments) { a.m.Way = l }, func(a *arguments) { a.f.Mirrors = make([]beam.Mirror, len(l)) }, func(a *arguments) { a.rounds = make([][]beam.Order, len(l)) }, func(a *arguments) { a.rounds = [][]beam.Order{make([]beam.Order, len(l))} },
			func(a *arguments) { a.g.Stations = make([]beam.Station, len(l)) }, func(a *arguments) { a.g.Moves = make([]beam.Move, len(l)) }, func(a *arguments) { a.g.Zones = make([]beam.Zone, len(l)) }, func(a *arguments) { a.g.Stations, a.way, a.set = nil, l, l },
		)
	}
	spoiltBy(func(a *arguments) { a.g, a.f = greatest(), field(0, standing(16)...) }, func(a *arguments) { a.g, a.way = chain(), ints(15, 14) }, func(a *arguments) { *a = arguments{} })
}

func TestNoPanicOfNames(t *testing.T) {
	for _, name := range append(wrongNames(), "m", "f", strings.Repeat("x", 1000000), strings.Repeat("\xff", 30), "\x00") {
		spoiltBy(
			func(a *arguments) { a.g.Stations[0].Name = name }, func(a *arguments) { a.g.Stations[0].Kind = name }, func(a *arguments) { a.g.Zones[0].Name = name }, func(a *arguments) { a.z.Name = name }, func(a *arguments) { a.f.Mirrors[0].Name = name }, func(a *arguments) { a.f.Mirrors[0].Sector = name }, func(a *arguments) { a.o.Mirror = name }, func(a *arguments) { a.o.Station = name }, func(a *arguments) { a.rounds[0][0] = order(name, name) }, func(a *arguments) { a.m.Name = name }, func(a *arguments) { a.m.Sector = name }, func(a *arguments) { a.name, a.sector = name, name },
		)
		beam.Parse(name)
		beam.Parse("grid " + name + "\n")
		beam.Parse("grid 5\nstation " + name + " focus 1 2\n")
	}
	for _, s := range append(wrongTexts(), "grid 5", strings.Repeat("\n", 4096), strings.Repeat(" ", 4096), "grid"+strings.Repeat(" 1", 2000)+"\n", "grid 5\n"+strings.Repeat("move 0 1 2\n", 300)) {
		beam.Parse(s)
		beam.Parse("grid 5\n" + s)
	}
}

// cloned returns a copy of arguments that shares no memory with them.
func cloned(a arguments) arguments {
	a.g, a.f, a.m.Way, a.way, a.set = clonedGrid(a.g), clonedField(a.f), slices.Clone(a.m.Way), slices.Clone(a.way), slices.Clone(a.set)
	a.rounds = slices.Clone(a.rounds)
	for i, l := range a.rounds {
		a.rounds[i] = slices.Clone(l)
	}
	return a
}

// clonedResults returns a copy of results that shares no memory with them.
func clonedResults(results []any) []any {
	out := slices.Clone(results)
	for i, x := range out {
		switch x := x.(type) {
		case []int:
			out[i] = slices.Clone(x)
		case []string:
			out[i] = slices.Clone(x)
		case beam.Field:
			out[i] = clonedField(x)
		}
	}
	return out
}

// spoilt changes the elements of all lists among some results, and what may stand behind them in their memory.
func spoilt(results []any) {
	for _, x := range results {
		switch x := x.(type) {
		case []int:
			spoilNumbers(x)
		case []string:
			for i := range x {
				x[i] = "spoilt"
			}
		case beam.Field:
			l := x.Mirrors[:cap(x.Mirrors)]
			for i := range l {
				spoilNumbers(l[i].Way)
				l[i] = beam.Mirror{Name: "spoilt"}
			}
		}
	}
}

func spoilNumbers(l []int) {
	l = l[:cap(l)]
	for i := range l {
		l[i] += 1000
	}
}

// TestArgumentsStay checks that no call changes its arguments, shares memory with a result, or remembers anything.
func TestArgumentsStay(t *testing.T) {
	long := rightArguments()
	long.f = field(10, mirror(0, 4, 3, 1, 0), named("k", "n", mirror(1, 1, 3, 2, 3)), named("l", "w", mirror(1, 0, 4, make([]int, 0, 9)...)))
	long.m.Way, long.o, long.rounds = make([]int, 0, 9), lost(order("m", "s")), nil
	for _, a := range []arguments{rightArguments(), long} {
		before := cloned(a)
		for _, x := range calls() {
			first, e := x.Do(a)
			wanted := clonedResults(first)
			spoilt(first)
			if !reflect.DeepEqual(cloned(a), before) {
				t.Fatalf("%s changes its arguments, or shares memory with them", x.What)
			}
			for _, m := range append(a.f.Mirrors, a.m) {
				if l := m.Way[:cap(m.Way)]; len(l) > 0 && slices.Max(l) >= 1000 {
					t.Fatalf("%s shares memory with its arguments", x.What)
				}
			}
			again, f := x.Do(a)
			if !reflect.DeepEqual(clonedResults(again), wanted) || e != f {
				t.Errorf("%s: %v, error %d, and again %v, error %d", x.What, wanted, e, again, f)
			}
		}
	}
}

// TestResultsShareNoMemory checks that the lists of one result do not change one another.
func TestResultsShareNoMemory(t *testing.T) {
	f, _ := beam.Stepped(wide(), field(10, mirror(0, 4, 9, 1, 3), named("k", "n", mirror(0, 1, 9, 1, 3)), named("l", "n", mirror(0, 0, 1))))
	wanted := clonedField(f)
	for i := range f.Mirrors {
		f.Mirrors[i].Way = append(f.Mirrors[i].Way, 9, 9, 9, 9)
	}
	for i, m := range f.Mirrors {
		if way := wanted.Mirrors[i].Way; !slices.Equal(m.Way[:len(way)], way) {
			t.Errorf("the way of the mirror %d becomes %v", i, m.Way)
		}
	}
	first, _, _ := beam.Parse(textOfG)
	second, _, _ := beam.Parse(textOfG)
	first.Stations[0], first.Moves[0], first.Zones[0] = beam.Station{}, beam.Move{}, beam.Zone{}
	if !sameGrid(second, plane()) {
		t.Errorf("Parse shares memory: %v", second)
	}
}
