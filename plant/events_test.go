package plant_test

import (
	"fmt"
	"math/rand"
	"slices"
	"strings"
	"testing"

	"spillage/api"
	"spillage/expect"
	"spillage/plant"
)

// P10.1

func TestCheckEvent(t *testing.T) {
	long := strings.Repeat("Z", 24)
	for _, line := range []string{"sector n 0", "mirror a n 0 10", "soil b 1 500", "clean a 999999999", "defect a 0", "repair a 0", "aim a 3", "park a 3", "dim n 0", "sun 2 800", "fill 2", "drain 2", "trip 6", "reset 9", "offer o 9 10 20 50 100", "deliver o 10 30", "bill o 20", "undo", "sector " + long + " 0", "mirror " + long + " " + long + " 999999999 999999999", "mirror a a 0 0", "soil b 0 999999999", "sun 0 999999999", "offer o_1 9 8 7 0 999999999", "deliver sector 0 0"} {
		for _, number := range []int{1, 2, 999, 1000} {
			expect.Err(t, line, plant.CheckEvent(event(number, line)), api.OK)
		}
		for _, number := range expect.Outside(1, 1000) {
			expect.Err(t, line, plant.CheckEvent(event(number, line)), api.ErrRange)
		}
		with := event(1, line)
		with.Text = " "
		expect.Err(t, line+" with a text", plant.CheckEvent(with), api.ErrForm)
	}
	empty := api.Event{Number: 1, Kind: "undo", Names: []string{}, Values: []int{}}
	expect.Err(t, "an undo with empty lists", plant.CheckEvent(empty), api.OK)
}

func TestCheckEventOfKinds(t *testing.T) {
	for _, kind := range []string{"", "Sector", "sectors", "secto", " sector", "sector\n", "sector\x00", "note", "state", "rate", "aimed", "books", "offers", "dirt", "count"} {
		expect.Err(t, "an event of the kind "+kind, plant.CheckEvent(api.Event{Number: 1, Kind: kind}), api.ErrKind)
	}
}

// formOf returns how many names and values the events of a kind have.
func formOf(kind string) (int, int) {
	switch kind {
	case "mirror":
		return 2, 2
	case "soil", "deliver":
		return 1, 2
	case "offer":
		return 1, 5
	case "sun":
		return 0, 2
	case "fill", "drain", "trip", "reset":
		return 0, 1
	case "undo":
		return 0, 0
	}
	return 1, 1
}

func TestCheckEventOfForms(t *testing.T) {
	for _, kind := range kindNames() {
		names, values := formOf(kind)
		for i := range 5 {
			for j := range 9 {
				e := api.Event{Number: 1, Kind: kind, Names: slices.Repeat([]string{"a"}, i), Values: make([]int, j)}
				wanted := api.OK
				if i != names || j != values {
					wanted = api.ErrShape
				}
				expect.Err(t, fmt.Sprintf("%s with %d names and %d values", kind, i, j), plant.CheckEvent(e), wanted)
			}
		}
		for i := range names {
			for _, name := range []string{"", "1", "_", "1a", "a b", "a-", "a\n", "\u00e9", "a\xff", strings.Repeat("a", 25)} {
				e := api.Event{Number: 1, Kind: kind, Names: slices.Repeat([]string{"a"}, names), Values: make([]int, values)}
				e.Names[i] = name
				expect.Err(t, fmt.Sprintf("%s with the name %q", kind, name), plant.CheckEvent(e), api.ErrName)
			}
		}
		for i := range values {
			for _, n := range expect.Outside(0, 999999999) {
				e := api.Event{Number: 1, Kind: kind, Names: slices.Repeat([]string{"a"}, names), Values: make([]int, values)}
				e.Values[i] = n
				expect.Err(t, fmt.Sprintf("%s with the value %d", kind, n), plant.CheckEvent(e), api.ErrRange)
			}
		}
	}
}

// TestCheckEventInOrder checks that of two errors of an event the first one decides.
func TestCheckEventInOrder(t *testing.T) {
	names := func(l ...string) []string { return l }
	for _, x := range []struct {
		e api.Event
		x api.Errno
	}{
		{api.Event{Number: 0, Kind: "note"}, api.ErrRange}, {api.Event{Number: 1001, Kind: "fill"}, api.ErrRange}, {api.Event{Number: 1, Kind: "note", Names: names("a")}, api.ErrKind}, {api.Event{Number: 1, Kind: "note", Values: []int{0}}, api.ErrKind}, {api.Event{Number: 1, Kind: "note", Names: names("1"), Values: []int{-1}, Text: "x"}, api.ErrKind},
		{api.Event{Number: 1, Kind: "clean", Names: names("1")}, api.ErrShape}, {api.Event{Number: 1, Kind: "clean", Names: names("1", "a"), Values: []int{0}}, api.ErrShape}, {api.Event{Number: 1, Kind: "clean", Names: names("1"), Values: []int{-1, 0}}, api.ErrShape}, {api.Event{Number: 1, Kind: "clean", Values: []int{-1}, Text: "x"}, api.ErrShape},
		{api.Event{Number: 1, Kind: "clean", Names: names("1"), Values: []int{-1}}, api.ErrName}, {api.Event{Number: 1, Kind: "mirror", Names: names("a", ""), Values: []int{0, -1}}, api.ErrName}, {api.Event{Number: 1, Kind: "clean", Names: names(""), Values: []int{0}, Text: "x"}, api.ErrName}, {api.Event{Number: 1, Kind: "clean", Names: names("a"), Values: []int{1000000000}, Text: "x"}, api.ErrRange}, {api.Event{Number: 1, Kind: "sun", Values: []int{0, -1}, Text: "x"}, api.ErrRange},
	} {
		expect.Err(t, fmt.Sprintf("CheckEvent %+v", x.e), plant.CheckEvent(x.e), x.x)
	}
}

func TestReplay(t *testing.T) {
	a, b := plant.Mirror{Name: "a", Sector: "n", Area: 10, Aimed: true}, plant.Mirror{Name: "b", Sector: "n", Area: 20, Soil: 500, Aimed: true}
	parkedA, parkedB := a, b
	parkedA.Aimed, parkedB.Aimed = false, false
	clean := parkedB
	clean.Soil = 0
	broken := parkedA
	broken.Defect = true
	n := []string{"n"}
	o := plant.Offer{Name: "o", Span: api.Span{From: 10, To: 20}, Energy: 50, Price: 100, Delivered: 30}
	billed := o
	billed.Billed = true
	untouched := o
	untouched.Delivered = 0
	for _, x := range []struct {
		lines []string
		r     plant.Register
	}{
		{nil, plant.Register{}}, {chapter(1), plant.Register{Sectors: n}}, {chapter(3, "soil a 1 7", "clean a 2"), plant.Register{Tick: 2, Sectors: n, Mirrors: []plant.Mirror{parkedA, clean}}}, {chapter(8), plant.Register{Tick: 4, Level: 800, Filled: true, Light: 8000000, Heat: 8000000, Sectors: n, Mirrors: []plant.Mirror{a, b}}},
		{chapter(8, "park a 5"), plant.Register{Tick: 5, Level: 800, Filled: true, Light: 24000000, Heat: 24000000, Sectors: n, Mirrors: []plant.Mirror{parkedA, b}}}, {chapter(8, "dim n 5", "clean b 7"), plant.Register{Tick: 7, Level: 800, Filled: true, Light: 24000000, Heat: 24000000, Sectors: n, Mirrors: []plant.Mirror{parkedA, clean}}}, {chapter(8, "sun 5 0", "sun 9 1"), plant.Register{Tick: 9, Level: 1, Filled: true, Light: 24000000, Heat: 24000000, Sectors: n, Mirrors: []plant.Mirror{a, b}}},
		{chapter(9), plant.Register{Tick: 6, Level: 800, Filled: true, Tripped: true, Light: 40000000, Heat: 40000000, Sectors: n, Mirrors: []plant.Mirror{parkedA, parkedB}}}, {chapter(9, "drain 7", "fill 8", "drain 9", "reset 9"), plant.Register{Tick: 9, Level: 800, Light: 40000000, Heat: 40000000, Sectors: n, Mirrors: []plant.Mirror{parkedA, parkedB}}}, {chapter(2, "defect a 1"), plant.Register{Tick: 1, Sectors: n, Mirrors: []plant.Mirror{broken}}}, {chapter(2, "defect a 1", "repair a 2"), plant.Register{Tick: 2, Sectors: n, Mirrors: []plant.Mirror{parkedA}}},
		{chapter(11), plant.Register{Tick: 9, Level: 800, Filled: true, Light: 40000000, Heat: 40000000, Sectors: n, Mirrors: []plant.Mirror{parkedA, parkedB}, Offers: []plant.Offer{untouched}}}, {chapter(12), plant.Register{Tick: 10, Level: 800, Filled: true, Light: 40000000, Heat: 10000000, Sectors: n, Mirrors: []plant.Mirror{parkedA, parkedB}, Offers: []plant.Offer{o}}}, {chapter(13), plant.Register{Tick: 20, Level: 800, Filled: true, Light: 40000000, Heat: 10000000, Money: -1000, Sectors: n, Mirrors: []plant.Mirror{parkedA, parkedB}, Offers: []plant.Offer{billed}}},
		{chapter(8, "sector s 5", "mirror c s 5 1"), plant.Register{Tick: 5, Level: 800, Filled: true, Light: 24000000, Heat: 24000000, Sectors: []string{"n", "s"}, Mirrors: []plant.Mirror{a, b, {Name: "c", Sector: "s", Area: 1}}}},
	} {
		r, n, e := plant.Replay(events(x.lines...))
		expect.Result(t, "the number of Replay", n, e, 0, api.OK)
		want(t, fmt.Sprintf("Replay %q", x.lines), r, e, x.r, api.OK)
	}
}

// TestReplayOfWrongEvents checks the number of the first one, with nothing beside it and its error.
func TestReplayOfWrongEvents(t *testing.T) {
	shape, kind, late := event(5, "fill 2 3"), event(5, "note 3"), event(6, "fill 2")
	for _, x := range []struct {
		l      []api.Event
		number int
		e      api.Errno
	}{
		{append(events(chapter(4)...), shape), 5, api.ErrShape}, {append(events(chapter(4)...), shape, kind), 5, api.ErrShape}, {append(events(chapter(4)...), kind, shape), 5, api.ErrKind}, {append(events(chapter(4)...), late), 5, api.ErrOrder}, {events(chapter(4, "aim a 1")...), 5, api.ErrCold}, {events(chapter(4, "aim a 1", "note 1")...), 5, api.ErrCold}, {events(chapter(4, "aim a 0")...), 5, api.ErrState}, {events(chapter(13, "undo")...), 14, api.ErrRule},
		{events("undo"), 1, api.ErrEmpty}, {[]api.Event{{}}, 1, api.ErrRange}, {[]api.Event{event(2, "fill 2")}, 1, api.ErrOrder}, {[]api.Event{event(1, "fill 2"), event(1, "trip 2")}, 2, api.ErrOrder}, {[]api.Event{event(1, "fill 2"), event(3, "trip 2")}, 2, api.ErrOrder}, {[]api.Event{event(1, "fill 2"), event(1, "fill 2 2")}, 2, api.ErrShape}, {append(idle(1000), api.Event{}), 0, api.ErrMany}, {make([]api.Event, 1001), 0, api.ErrMany}, {make([]api.Event, 1000), 1, api.ErrRange}, {append(idle(999), event(1000, "undo 1")), 1000, api.ErrShape},
	} {
		r, n, e := plant.Replay(x.l)
		expect.Result(t, "the number of Replay", n, e, x.number, x.e)
		want(t, "Replay", r, e, plant.Register{}, x.e)
	}
	r, n, e := plant.Replay(idle(1000))
	expect.Result(t, "the number of Replay of as many events as may be", n, e, 0, api.OK)
	want(t, "Replay of as many events as may be", r, e, plant.Register{Tick: 999}, api.OK)
}

// wantAccepted reports an error with which a line is accepted after others that is not the expected one.
func wantAccepted(t *testing.T, lines []string, line string, wanted api.Errno) {
	t.Helper()
	l := events(lines...)
	if _, n, e := plant.Replay(l); e != api.OK {
		t.Fatalf("Replay %q: number %d, error %d", lines, n, e)
	}
	if e := plant.Accepts(l, event(len(l)+1, line)); e != wanted {
		t.Errorf("Accepts %q after %q: error %d, want %d", line, lines, e, wanted)
	}
}

func TestAcceptsOfFields(t *testing.T) {
	eight, broken := many(8, "sector s%d 3"), chapter(6, "defect a 5")
	full := joined(chapter(2), many(31, "mirror m%d n 0 1"))
	for _, x := range []struct {
		lines []string
		line  string
		e     api.Errno
	}{
		{nil, "sector n 0", api.OK}, {chapter(1), "sector n 0", api.ErrTwice}, {chapter(2), "sector a 0", api.OK}, {eight[:7], "sector x 3", api.OK}, {eight, "sector x 3", api.ErrMany}, {eight, "sector s7 3", api.ErrTwice}, {eight, "sector s7 2", api.ErrState},
		{chapter(1), "mirror a n 0 10", api.OK}, {chapter(1), "mirror n n 0 10", api.OK}, {chapter(1), "mirror a x 0 10", api.ErrUnknown}, {chapter(2), "mirror a n 0 10", api.ErrTwice}, {chapter(2), "mirror a x 0 10", api.ErrUnknown}, {chapter(2), "mirror a a 0 10", api.ErrUnknown}, {chapter(2), "mirror a n 0 0", api.ErrTwice}, {chapter(1), "mirror a x 0 0", api.ErrUnknown}, {chapter(1), "mirror a n 0 0", api.ErrRange}, {chapter(1), "mirror a n 0 1", api.OK}, {chapter(1), "mirror a n 0 100", api.OK}, {chapter(1), "mirror a n 0 101", api.ErrRange},
		{full[:32], "mirror x n 0 10", api.OK}, {full, "mirror x n 0 10", api.ErrMany}, {full, "mirror x n 0 0", api.ErrRange}, {full, "mirror m0 n 0 10", api.ErrTwice},
		{chapter(2), "soil a 0 0", api.OK}, {chapter(2), "soil a 0 1000", api.OK}, {chapter(2), "soil a 0 1001", api.ErrRange}, {chapter(2), "soil b 0 1001", api.ErrUnknown}, {chapter(8), "soil a 4 1", api.OK}, {chapter(2), "clean a 0", api.OK}, {chapter(2), "clean n 0", api.ErrUnknown}, {chapter(8), "clean a 4", api.OK},
		{chapter(8), "defect a 5", api.ErrHeld}, {chapter(6), "defect a 5", api.OK}, {chapter(7), "defect b 5", api.OK}, {broken, "defect a 5", api.ErrTwice}, {broken, "defect b 5", api.OK}, {broken, "defect n 5", api.ErrUnknown}, {broken, "repair a 5", api.OK}, {broken, "repair b 5", api.ErrState}, {broken, "repair n 5", api.ErrUnknown}, {append(broken, "repair a 6"), "repair a 6", api.ErrState}, {append(broken, "repair a 6"), "aim a 6", api.OK},
		{chapter(6), "aim a 2", api.OK}, {chapter(6), "aim n 2", api.ErrUnknown}, {chapter(4), "aim a 1", api.ErrCold}, {chapter(8, "dim n 5", "drain 6"), "aim a 6", api.ErrCold}, {chapter(9), "aim a 7", api.ErrLocked}, {chapter(10), "aim a 9", api.OK}, {broken, "aim a 5", api.ErrRule}, {broken, "aim b 5", api.OK}, {chapter(8), "aim a 5", api.ErrTwice}, {chapter(8, "park a 5"), "aim a 5", api.OK}, {chapter(8, "dim n 5"), "aim a 5", api.OK}, {chapter(4, "trip 1", "defect a 1"), "aim a 1", api.ErrCold}, {chapter(4, "trip 1", "defect a 1", "fill 1"), "aim a 1", api.ErrLocked}, {chapter(4, "trip 1", "defect a 1", "fill 1", "reset 1"), "aim a 1", api.ErrRule},
		{chapter(6), "park a 5", api.ErrState}, {chapter(7), "park a 5", api.OK}, {chapter(7), "park b 5", api.ErrState}, {chapter(7), "park n 5", api.ErrUnknown}, {chapter(9), "park a 7", api.ErrState}, {chapter(8, "dim n 5"), "park a 5", api.ErrState}, {chapter(1), "dim n 0", api.OK}, {chapter(8), "dim n 4", api.OK}, {chapter(8), "dim a 4", api.ErrUnknown}, {chapter(8, "dim n 4"), "dim n 4", api.OK},
	} {
		wantAccepted(t, x.lines, x.line, x.e)
	}
}

func TestAcceptsOfTheReceiver(t *testing.T) {
	for _, x := range []struct {
		lines []string
		line  string
		e     api.Errno
	}{
		{nil, "sun 0 1000", api.OK}, {nil, "sun 0 1001", api.ErrRange}, {chapter(8), "sun 4 0", api.OK}, {chapter(8), "sun 4 800", api.OK}, {nil, "sun 999999999 0", api.OK}, {chapter(4), "fill 1", api.OK}, {chapter(6), "fill 5", api.ErrTwice}, {chapter(4, "trip 1"), "fill 1", api.OK}, {chapter(6, "drain 5"), "fill 5", api.OK},
		{chapter(4), "drain 5", api.ErrState}, {chapter(6), "drain 5", api.OK}, {chapter(6, "drain 5"), "drain 5", api.ErrState}, {chapter(8), "drain 5", api.ErrHeld}, {chapter(8, "park b 5"), "drain 5", api.ErrHeld}, {chapter(8, "park b 5", "park a 5"), "drain 5", api.OK}, {chapter(9), "drain 6", api.OK},
		{nil, "trip 0", api.OK}, {chapter(8), "trip 4", api.OK}, {chapter(9), "trip 6", api.ErrTwice}, {chapter(10), "trip 9", api.OK}, {nil, "reset 0", api.ErrState}, {chapter(9), "reset 6", api.OK}, {chapter(10), "reset 9", api.ErrState},
	} {
		wantAccepted(t, x.lines, x.line, x.e)
	}
}

func TestAcceptsOfOffers(t *testing.T) {
	full := many(32, "offer o%d 0 5 9 1 1")
	rich := chapter(8, "offer o 4 5 9 900 3", "offer p 4 5 9 20 3")
	for _, x := range []struct {
		lines []string
		line  string
		e     api.Errno
	}{
		{chapter(10), "offer o 9 9 10 50 100", api.OK}, {chapter(10), "offer o 9 8 20 50 100", api.ErrSpan}, {chapter(10), "offer o 9 9 9 50 100", api.ErrSpan}, {chapter(10), "offer o 9 12 11 50 100", api.ErrSpan}, {chapter(10), "offer o 30 29 31 50 100", api.ErrSpan}, {chapter(10), "offer o 30 30 31 50 100", api.OK}, {chapter(10), "offer o 9 9 10 0 100", api.ErrRange}, {chapter(10), "offer o 9 9 10 1 100", api.OK}, {chapter(10), "offer o 9 9 10 1000 1000", api.OK}, {chapter(10), "offer o 9 9 10 1001 1000", api.ErrRange}, {chapter(10), "offer o 9 9 10 1000 1001", api.ErrRange}, {chapter(10), "offer o 9 9 10 1000 0", api.OK}, {chapter(10), "offer n 9 9 10 1 1", api.OK}, {chapter(11), "offer o 9 9 10 1 1", api.ErrTwice}, {chapter(11), "offer o 9 8 10 1 1", api.ErrTwice}, {chapter(13), "offer o 20 20 30 1 1", api.ErrTwice}, {chapter(10), "offer o 9 8 20 0 1001", api.ErrSpan},
		{full[:31], "offer o 0 0 1 1 1", api.OK}, {full, "offer o 0 0 1 1 1", api.ErrMany}, {full, "offer o 0 0 0 1 1", api.ErrSpan}, {full, "offer o 0 0 1 0 1", api.ErrRange}, {full, "offer o 0 0 1 1 1001", api.ErrRange}, {full, "offer o31 0 0 1 1 1", api.ErrTwice},
		{chapter(11), "deliver o 9 5", api.ErrSpan}, {chapter(11), "deliver o 10 5", api.OK}, {chapter(11), "deliver o 19 5", api.OK}, {chapter(11), "deliver o 20 5", api.ErrSpan}, {chapter(11), "deliver o 9 0", api.ErrSpan}, {chapter(11), "deliver o 10 0", api.ErrRange}, {chapter(11), "deliver o 10 51", api.ErrLimit}, {chapter(11), "deliver o 10 50", api.ErrShort}, {chapter(11), "deliver o 10 41", api.ErrShort}, {chapter(11), "deliver o 10 40", api.OK}, {chapter(11), "deliver p 10 40", api.ErrUnknown}, {chapter(12), "deliver o 10 10", api.OK}, {chapter(12), "deliver o 10 11", api.ErrShort}, {chapter(12), "deliver o 10 20", api.ErrShort}, {chapter(12), "deliver o 10 21", api.ErrLimit}, {chapter(11), "deliver o 10 999999999", api.ErrLimit}, {chapter(13), "deliver o 20 1", api.ErrOver}, {chapter(13), "deliver o 21 0", api.ErrOver},
		{rich, "deliver o 5 24", api.OK}, {rich, "deliver o 5 25", api.ErrShort}, {rich, "deliver o 6 40", api.OK}, {rich, "deliver o 6 41", api.ErrShort}, {append(rich, "deliver p 5 20"), "deliver o 5 5", api.ErrShort}, {append(rich, "deliver p 5 20"), "deliver o 5 4", api.OK}, {append(rich, "deliver p 5 20"), "deliver p 5 1", api.ErrLimit},
		{chapter(12), "bill o 19", api.ErrOpen}, {chapter(12), "bill o 20", api.OK}, {chapter(11), "bill o 99", api.OK}, {chapter(11), "bill o 9", api.ErrOpen}, {chapter(13), "bill o 20", api.ErrOver}, {chapter(12), "bill n 20", api.ErrUnknown}, {chapter(12), "bill n 19", api.ErrUnknown},
	} {
		wantAccepted(t, x.lines, x.line, x.e)
	}
}

func TestAcceptsOfUndo(t *testing.T) {
	for _, x := range []struct {
		lines []string
		line  string
		e     api.Errno
	}{
		{nil, "undo", api.ErrEmpty}, {chapter(1), "undo", api.OK}, {chapter(1, "undo"), "undo", api.ErrEmpty}, {chapter(1, "undo"), "sector n 0", api.OK}, {chapter(10), "undo", api.OK}, {chapter(11), "undo", api.OK}, {chapter(12), "undo", api.ErrRule}, {chapter(13), "undo", api.ErrRule}, {chapter(13, "sun 30 1"), "undo", api.OK}, {chapter(13, "sun 30 1", "undo"), "undo", api.ErrRule}, {chapter(12, "sun 15 1", "trip 16", "undo", "undo"), "undo", api.ErrRule}, {chapter(11, "undo", "undo", "undo"), "undo", api.OK},
		{chapter(11, "undo"), "offer o 9 9 10 1 1", api.OK}, {chapter(11, "undo"), "bill o 20", api.ErrUnknown}, {chapter(8, "undo"), "park b 4", api.ErrState}, {chapter(8, "undo"), "park a 3", api.OK}, {chapter(8, "undo"), "park a 2", api.ErrState}, {chapter(8, "undo", "undo"), "aim a 2", api.OK}, {chapter(8, "trip 900", "undo"), "reset 900", api.ErrState}, {chapter(8, "trip 900", "undo"), "park a 4", api.OK}, {chapter(8, "trip 900", "undo"), "park a 3", api.ErrState}, {chapter(8, "trip 900", "undo", "sector s 5", "undo", "undo"), "park b 5", api.ErrState}, {chapter(8, "clean b 5", "undo"), "undo", api.OK},
	} {
		wantAccepted(t, x.lines, x.line, x.e)
	}
}

// TestAcceptsInOrder checks the Number of an event, and the errors that come before those of its kind.
func TestAcceptsInOrder(t *testing.T) {
	bright := []string{"sector n 0", "mirror m n 0 100", "fill 0", "sun 0 1000", "aim m 0"}
	for _, x := range []struct {
		lines []string
		line  string
		e     api.Errno
	}{
		{chapter(8), "park a 3", api.ErrState}, {chapter(8), "park a 4", api.OK}, {chapter(8), "park x 3", api.ErrState}, {chapter(8), "sector n 3", api.ErrState}, {chapter(8), "park x 4", api.ErrUnknown}, {chapter(8), "sun 3 1001", api.ErrState}, {chapter(12), "bill o 9", api.ErrState},
		{bright, "park m 10000000", api.OK}, {bright, "park m 10000001", api.ErrLarge}, {bright, "park x 10000001", api.ErrLarge}, {bright, "sector n 999999999", api.ErrLarge}, {bright, "fill 10000001", api.ErrLarge}, {append(bright, "sun 1 999"), "park m 10010010", api.OK}, {append(bright, "sun 1 999"), "park m 10010011", api.ErrLarge}, {append(bright, "soil m 2 1000"), "park m 999999999", api.OK}, {append(bright, "park m 10000000"), "park m 999999999", api.ErrState},
		{append(bright, "offer o 2 2 9 1000 1", "deliver o 8 800"), "park m 10000000", api.OK}, {append(bright, "offer o 2 2 9 1000 1", "deliver o 8 800"), "park m 10000001", api.ErrLarge}, {joined(bright, many(31, "mirror m%d n 0 100"), many(31, "aim m%d 0")), "trip 312500", api.OK}, {joined(bright, many(31, "mirror m%d n 0 100"), many(31, "aim m%d 0")), "trip 312501", api.ErrLarge}, {joined(bright, many(31, "mirror m%d n 0 100"), many(31, "aim m%d 0")), "trip 999999999", api.ErrLarge},
	} {
		wantAccepted(t, x.lines, x.line, x.e)
	}
	for _, number := range []int{1, 8, 10, 1000} {
		for _, line := range []string{"park a 3", "park x 10", "undo", "bill o 4"} {
			expect.Err(t, line+" with another Number", plant.Accepts(events(chapter(8)...), event(number, line)), api.ErrOrder)
		}
	}
	expect.Err(t, "an undo of nothing with another Number", plant.Accepts(nil, event(2, "undo")), api.ErrOrder)
}

// TestAcceptsOfWrongArguments checks that the events decide before the further one, and its form before how many there are.
func TestAcceptsOfWrongArguments(t *testing.T) {
	for _, x := range []struct {
		l []api.Event
		e api.Event
		x api.Errno
	}{
		{events(chapter(4, "aim a 1")...), api.Event{}, api.ErrCold}, {make([]api.Event, 1001), api.Event{}, api.ErrMany}, {events(chapter(4)...), api.Event{}, api.ErrRange}, {events(chapter(4)...), event(5, "fills 2"), api.ErrKind}, {events(chapter(4)...), event(9, "fill"), api.ErrShape}, {events(chapter(4)...), event(9, "fill 2"), api.ErrOrder},
		{idle(999), event(1000, "undo"), api.OK}, {idle(1000), event(1000, "undo"), api.ErrMany}, {idle(1000), event(1001, "undo"), api.ErrRange}, {idle(1000), event(1000, "undo 1"), api.ErrShape}, {idle(1000), event(1, "park a 0"), api.ErrMany},
	} {
		expect.Err(t, fmt.Sprintf("Accepts %v after %d events", x.e, len(x.l)), plant.Accepts(x.l, x.e), x.x)
	}
}

func TestAsOf(t *testing.T) {
	for _, x := range []struct {
		lines []string
		tick  int
		same  []string
	}{
		{nil, 0, nil}, {nil, 999999999, nil}, {chapter(12), 0, chapter(3)}, {chapter(12), 1, chapter(4)}, {chapter(12), 2, chapter(6)}, {chapter(12), 3, chapter(7)}, {chapter(12), 5, chapter(8)}, {chapter(12), 6, chapter(9)}, {chapter(12), 8, chapter(9)}, {chapter(12), 9, chapter(11)}, {chapter(12), 999999999, chapter(12)}, {[]string{"sun 5 7"}, 4, nil}, {[]string{"sun 5 7"}, 5, []string{"sun 5 7"}}, {chapter(10, "undo", "undo"), 99, chapter(8)}, {chapter(8, "trip 9", "undo", "dim n 5"), 7, chapter(8, "dim n 5")}, {chapter(8, "trip 9", "undo", "dim n 5"), 4, chapter(8)},
	} {
		r, e := plant.AsOf(events(x.lines...), x.tick)
		want(t, fmt.Sprintf("AsOf %q %d", x.lines, x.tick), r, e, replayed(t, events(x.same...)), api.OK)
	}
	for _, tick := range expect.Outside(0, 999999999) {
		r, e := plant.AsOf(events(chapter(12)...), tick)
		want(t, "AsOf no tick", r, e, plant.Register{}, api.ErrRange)
		r, e = plant.AsOf(events(chapter(4, "aim a 1")...), tick)
		want(t, "AsOf wrong events and no tick", r, e, plant.Register{}, api.ErrCold)
	}
}

// TestEventsByDefinition compares what is accepted, and the registers, with the definitions.
func TestEventsByDefinition(t *testing.T) {
	rnd := rand.New(rand.NewSource(1))
	counts := map[string]int{}
	errors := map[api.Errno]int{}
	for range 200 {
		l := randomPlant(rnd, rnd.Intn(50))
		for range 40 {
			x := randomNext(rnd, l)
			wanted := refusal(l, x)
			errors[wanted]++
			if e := plant.Accepts(l, x); e != wanted {
				t.Fatalf("Accepts %v after %v: error %d, want %d", x, l, e, wanted)
			}
			more := append(l[:len(l):len(l)], x)
			r, n, e := plant.Replay(more)
			if wanted != api.OK {
				expect.Result(t, "the number of Replay", n, e, len(more), wanted)
				continue
			}
			counts[x.Kind]++
			expect.Result(t, "the number of Replay", n, e, 0, wanted)
			want(t, "Replay", r, e, registerOf(counting(more)), api.OK)
		}
		counted := counting(l)
		for range 3 {
			tick := rnd.Intn(lastTick(counted) + 9)
			till := slices.IndexFunc(counted, func(e api.Event) bool { return tickOf(e) > tick })
			if till < 0 {
				till = len(counted)
			}
			r, e := plant.AsOf(l, tick)
			want(t, "AsOf", r, e, registerOf(counted[:till]), api.OK)
		}
	}
	for _, kind := range kindNames() {
		if counts[kind] < 10 {
			t.Errorf("only %d events of the kind %s were accepted", counts[kind], kind)
		}
	}
	for _, e := range []api.Errno{api.ErrRule, api.ErrState, api.ErrLarge, api.ErrUnknown, api.ErrTwice, api.ErrRange, api.ErrHeld, api.ErrCold, api.ErrLocked, api.ErrSpan, api.ErrOver, api.ErrLimit, api.ErrShort, api.ErrOpen} {
		if errors[e] < 10 {
			t.Errorf("only %d events were refused with error %d", errors[e], e)
		}
	}
}
