package plant_test

import (
	"math"
	"reflect"
	"slices"
	"strings"
	"testing"

	"spillage/api"
	"spillage/expect"
	"spillage/plant"
)

// P1: no function panics, for whatever arguments; each result depends on them alone.

// arguments are what the functions of the package take.
type arguments struct {
	events []api.Event
	event  api.Event
	name   string
	tick   int
	log    string
	line   string
}

func rightArguments() arguments {
	return arguments{events: events(chapter(12)...), event: event(13, "bill o 20"), name: "a", tick: 12, log: checked("1 sector n 0"), line: "trip 0"}
}

func calls() []expect.Call[arguments] {
	return []expect.Call[arguments]{
		{What: "CheckEvent", Do: func(a arguments) ([]any, api.Errno) { return expect.None(plant.CheckEvent(a.event)) }},
		{What: "Replay", Do: func(a arguments) ([]any, api.Errno) { return expect.Two(plant.Replay(a.events)) }},
		{What: "Accepts", Do: func(a arguments) ([]any, api.Errno) { return expect.None(plant.Accepts(a.events, a.event)) }},
		{What: "AsOf", Do: func(a arguments) ([]any, api.Errno) { return expect.One(plant.AsOf(a.events, a.tick)) }},
		{What: "Rate", Do: func(a arguments) ([]any, api.Errno) { return expect.One(plant.Rate(a.events)) }},
		{What: "Aimed", Do: func(a arguments) ([]any, api.Errno) { return expect.One(plant.Aimed(a.events)) }},
		{What: "Sector", Do: func(a arguments) ([]any, api.Errno) { return expect.One(plant.Sector(a.events, a.name)) }},
		{What: "Booked", Do: func(a arguments) ([]any, api.Errno) { return expect.One(plant.Booked(a.events, a.tick)) }},
		{What: "Shortfall", Do: func(a arguments) ([]any, api.Errno) { return expect.One(plant.Shortfall(a.events, a.name)) }},
		{What: "Bill", Do: func(a arguments) ([]any, api.Errno) { return expect.One(plant.Bill(a.events, a.name)) }},
		{What: "Story", Do: func(a arguments) ([]any, api.Errno) { return expect.One(plant.Story(a.events, a.name)) }},
		{What: "Append", Do: func(a arguments) ([]any, api.Errno) { return expect.One(plant.Append(a.log, a.event)) }},
		{What: "Recover", Do: func(a arguments) ([]any, api.Errno) { return expect.Two(plant.Recover(a.log)) }},
		{What: "a session", Do: func(a arguments) ([]any, api.Errno) {
			s, e := plant.Open(a.log)
			answer, f := s.Do(a.line)
			return []any{e, answer, s.Events(), s.Log()}, f
		}},
	}
}

// spoiltBy calls all functions with the right arguments after each of some changes.
func spoiltBy(changes ...func(a *arguments)) {
	expect.CallAfter(calls(), rightArguments, changes...)
}

func TestNoPanicOfNumbers(t *testing.T) {
	for _, n := range []int{math.MinInt, math.MinInt + 1, -1 << 32, -1000000000, -1, 0, 1, 9, 10, 19, 20, 21, 50, 51, 999, 1000, 1001, 999999999, 1000000000, 1 << 32, math.MaxInt - 1, math.MaxInt} {
		spoiltBy(func(a *arguments) { a.tick = n }, func(a *arguments) { a.event.Number = n }, func(a *arguments) { a.event.Values[0] = n }, func(a *arguments) { a.events[3].Number = n })
		for i, e := range events(chapter(12)...) {
			for k := range e.Values {
				spoiltBy(func(a *arguments) { a.events[i].Values[k] = n }, func(a *arguments) {
					a.events, a.event = a.events[:i], event(i+1, chapter(12)[i])
					a.event.Values[k] = n
				})
			}
		}
		for _, kind := range kindNames() {
			names, values := formOf(kind)
			wild := api.Event{Number: 13, Kind: kind, Names: slices.Repeat([]string{"a"}, names), Values: slices.Repeat([]int{n}, values)}
			spoiltBy(func(a *arguments) { a.event = wild }, func(a *arguments) { a.events = append(a.events, wild) }, func(a *arguments) { a.events = []api.Event{wild} })
		}
	}
	spoiltBy(func(a *arguments) { *a = arguments{} })
}

func TestNoPanicOfLists(t *testing.T) {
	for _, n := range []int{0, 1, 2, 3, 5, 6, 32, 999, 1000, 1001, 100000} {
		spoiltBy(func(a *arguments) { a.events = make([]api.Event, n) }, func(a *arguments) { a.events = idle(n) }, func(a *arguments) { a.event.Names, a.event.Values = make([]string, n), make([]int, n) }, func(a *arguments) { a.event.Names = make([]string, n) }, func(a *arguments) { a.event.Values = make([]int, n) }, func(a *arguments) { a.events[2].Values = make([]int, n) }, func(a *arguments) { a.events[2].Names = slices.Repeat([]string{"a"}, n) })
		for _, kind := range append(kindNames(), "", "note") {
			wild := api.Event{Number: 1, Kind: kind, Names: slices.Repeat([]string{"a"}, n), Values: make([]int, n)}
			spoiltBy(func(a *arguments) { a.event = wild }, func(a *arguments) { a.events = []api.Event{wild} })
		}
	}
}

func TestNoPanicOfWords(t *testing.T) {
	for _, s := range []string{"", " ", "  ", "\n", "\n\n", "\x00", "\xff\xfe", "a", "n", "o", "#", "#\n", "#0000001", "#0000001\n", "1 undo#", checked("1 undo"), checked("1 undo") + "2", checked(""), checked(" "), checked("1 "), checked("1 mirror"), checked("1 mirror "), checked("1  "), checked("\xff"), strings.Repeat("a", 25), strings.Repeat(" ", 4096), strings.Repeat(" ", 4097), strings.Repeat("\n", 1000000), strings.Repeat("#", 1000001), "undo " + strings.Repeat("1 ", 2000), "offer", "dirt", "dirt ", "count  "} {
		spoiltBy(func(a *arguments) { a.name = s }, func(a *arguments) { a.log = s }, func(a *arguments) { a.line = s }, func(a *arguments) { a.log += s }, func(a *arguments) { a.event.Kind = s }, func(a *arguments) { a.event.Names[0] = s }, func(a *arguments) { a.event.Text = s }, func(a *arguments) { a.events[2].Kind = s }, func(a *arguments) { a.events[2].Names[1] = s }, func(a *arguments) { a.events[7].Text = s })
	}
	for _, kind := range kindNames() {
		for _, rest := range []string{"", " ", " a", " 0", " a 0", " a a 0 0", " a 0 0", " 0 0", " a 0 0 0 0 0", "  0", " a  0"} {
			spoiltBy(func(a *arguments) { a.line = kind + rest }, func(a *arguments) { a.log += checked("2 " + kind + rest) })
		}
	}
}

// spared returns a copy of events that shares no memory with them, and has room behind all lists.
func spared(l []api.Event) []api.Event {
	l = expect.Spare(l)
	for i, e := range l {
		l[i].Names, l[i].Values = expect.Spare(e.Names), expect.Spare(e.Values)
	}
	return l
}

// fill changes all lists of events, and what may stand behind them in their memory.
func fill(l []api.Event) {
	for _, e := range l {
		expect.Fill(e.Names, "x")
		expect.Fill(e.Values, -7)
	}
	expect.Fill(l, api.Event{})
}

// spoil changes all lists of some results.
func spoil(results []any) {
	for _, x := range results {
		switch x := x.(type) {
		case []string:
			expect.Fill(x, "x")
		case []api.Event:
			fill(x)
		case plant.Register:
			expect.Fill(x.Sectors, "x")
			expect.Fill(x.Mirrors, plant.Mirror{Name: "x"})
			expect.Fill(x.Offers, plant.Offer{Name: "x"})
		}
	}
}

// behind returns events with what stands behind them, and behind their lists, in their memory.
func behind(l []api.Event) []any {
	out := []any{l[:cap(l)]}
	for _, e := range l {
		out = append(out, e.Names[:cap(e.Names)], e.Values[:cap(e.Values)])
	}
	return out
}

// TestArgumentsStay checks that no call changes its arguments, shares memory with a result, or remembers anything.
func TestArgumentsStay(t *testing.T) {
	for _, lines := range [][]string{chapter(12), chapter(8, "clean b 4", "undo", "sector s 4", "undo", "undo", "dim n 9"), chapter(4, "aim a 1")} {
		a := rightArguments()
		a.events, a.event = spared(events(lines...)), spared([]api.Event{a.event})[0]
		a.log = logOf(t, a.events)
		before, single := spared(a.events), show(a.event)
		for _, x := range calls() {
			first, e := x.Do(a)
			wanted := show(first)
			spoil(first)
			if !reflect.DeepEqual(behind(a.events), behind(before)) || show(a.event) != single {
				t.Fatalf("%s changes its arguments, or shares memory with them", x.What)
			}
			again, f := x.Do(a)
			if show(again) != wanted || e != f {
				t.Errorf("%s: %s, error %d, and again %v, error %d", x.What, wanted, e, again, f)
			}
		}
	}
}

// TestResultsShareNoMemory checks that no list of a result changes another one of it.
func TestResultsShareNoMemory(t *testing.T) {
	l, _, _ := plant.Recover(logOf(t, events(chapter(13)...)))
	story, _ := plant.Story(events(chapter(13)...), "b")
	s, _ := plant.Open(logOf(t, events(chapter(13)...)))
	for _, l := range [][]api.Event{l, story, s.Events()} {
		for i := range l {
			wanted := show(slices.Delete(slices.Clone(l), i, i+1))
			expect.Fill(l[i].Names, "x")
			expect.Fill(l[i].Values, -7)
			if got := show(slices.Delete(slices.Clone(l), i, i+1)); got != wanted {
				t.Errorf("the event %d shares memory: %s, and before %s", i, got, wanted)
			}
		}
	}
}

// TestSessionsKeepTheirEvents checks that a session is not changed by what it gave away.
func TestSessionsKeepTheirEvents(t *testing.T) {
	s := plant.New()
	do(t, s, chapter(13)...)
	fill(s.Events())
	want(t, "Events", s.Events(), api.OK, events(chapter(13)...), api.OK)
	expect.Result(t, "Log", s.Log(), api.OK, logOf(t, events(chapter(13)...)), api.OK)
}
