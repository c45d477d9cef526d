package beam_test

import (
	"slices"
	"testing"

	"spillage/api"
	"spillage/beam"
	"spillage/expect"
)

// P6.1 to P6.5: the errors of arguments, which all functions have in common.

func TestRightArguments(t *testing.T) {
	expect.RightArguments(t, calls(), rightArguments)
}

// TestTheFirstWrongArgumentDecides checks each fault of each argument, alone and before faults of the arguments behind it.
func TestTheFirstWrongArgumentDecides(t *testing.T) {
	expect.FirstFaults(t, calls(), rightArguments, faults(), isNothing)
}

// TestErrorsOfTheStatesComeLast checks that an argument that is wrong decides before what its function finds.
func TestErrorsOfTheStatesComeLast(t *testing.T) {
	g := wide()
	for _, set := range wrongSets() {
		expect.Err(t, "CheckBarrier beside a way", beam.CheckBarrier(g, 0, 0, set.x), set.e)
	}
	late := day()
	late.Tick = api.MaxTick
	for _, x := range wrongRounds() {
		f, e := beam.Run(g, late, x.x)
		wantField(t, "Run of too many rounds at the end", f, e, beam.Field{}, x.e)
	}
	full := field(10, standing(16)...)
	for _, x := range append(wrongNew(), wrong[beam.Mirror]{named("x", "n", mirror(3, 0, 10)), api.OK}) {
		f, e := beam.Joined(g, full, x.x)
		wantField(t, "Joined to a full field", f, e, beam.Field{}, api.ErrMany)
	}
	for _, x := range wrongMirrors() {
		f, e := beam.Stepped(g, beam.Field{Tick: api.MaxTick, Lease: 1, Mirrors: []beam.Mirror{x.x}})
		if x.e != api.ErrRange { // a mirror may have heard before the last tick
			wantField(t, "Stepped of a wrong mirror at the end", f, e, beam.Field{}, x.e)
		}
	}
}

// TestErrorsOfTwoStations checks the order of the errors of two stations: both of the first one, then both of the second one.
func TestErrorsOfTwoStations(t *testing.T) {
	for _, x := range []struct {
		from, to int
		e        api.Errno
	}{{held, 9, api.ErrHeld}, {9, held, api.ErrUnknown}, {held, held, api.ErrHeld}, {-1, -1, api.ErrUnknown}, {0, held, api.ErrHeld}, {0, 6, api.ErrUnknown}, {alone, held, api.ErrHeld}, {held, alone, api.ErrHeld}} {
		_, _, e := beam.Way(wide(), x.from, x.to)
		expect.Err(t, "Way", e, x.e)
		_, e = beam.Barrier(wide(), x.from, x.to)
		expect.Err(t, "Barrier", e, x.e)
		for _, set := range [][]int{nil, {x.from}, {0}, slices.Repeat(ints(9), 17)} {
			expect.Err(t, "CheckBarrier", beam.CheckBarrier(wide(), x.from, x.to, set), x.e)
		}
	}
}
