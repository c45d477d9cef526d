package grid_test

import (
	"testing"

	"spillage/api"
	"spillage/expect"
	"spillage/grid"
)

// P9.1 to P9.4: the errors of arguments, which all functions have in common.

func TestRightArguments(t *testing.T) {
	expect.RightArguments(t, calls(), rightArguments)
}

// TestTheFirstWrongArgumentDecides checks each fault of each argument, alone and before faults of the arguments behind it.
func TestTheFirstWrongArgumentDecides(t *testing.T) {
	expect.FirstFaults(t, calls(), rightArguments, faults(), isNothing)
}

// TestErrorsOfWhatIsFoundComeLast checks that an argument that is wrong decides before what its function finds.
func TestErrorsOfWhatIsFoundComeLast(t *testing.T) {
	zero, big, wide := z(0, 0), z(1<<20+1, 0), window(0, 0, 0, 0)
	for _, x := range []struct {
		grid, generator api.Gauss
		w               grid.Window
		e               api.Errno
	}{{zero, big, shown(), api.ErrRange}, {zero, z(1, 1), wide, api.ErrRange}, {zero, zero, window(1, 1, 2, 1), api.ErrOrder}, {zero, zero, shown(), api.ErrZero}, {zero, z(1, 0), shown(), api.ErrZero}, {z(1, 0), zero, shown(), api.OK}} {
		is, e := grid.InStep(x.grid, x.generator, x.w)
		expect.Result(t, "InStep", is, e, false, x.e)
	}
	for _, x := range []struct {
		grids, generators []api.Gauss
		w                 grid.Window
		hold              int
		e                 api.Errno
	}{
		{phasors(0, 0), nil, wide, 1, api.ErrRange}, {phasors(0, 0), nil, window(1, 1, 2, 1), 1, api.ErrOrder}, {phasors(0, 0), nil, shown(), 0, api.ErrRange}, {phasors(0, 0), nil, shown(), 65, api.ErrRange}, {phasors(0, 0), nil, shown(), 1, api.ErrShape}, {nil, phasors(0, 0), shown(), 1, api.ErrShape}, {still(3), still(2), shown(), 1, api.ErrShape}, {still(2), still(3), shown(), 1, api.ErrShape},
		{phasors(10, 0, 0, 0), still(2), shown(), 1, api.ErrZero}, {phasors(0, 0, 10, 0), still(2), shown(), 2, api.ErrZero}, {phasors(0, 0), phasors(0, 0), shown(), 1, api.ErrZero}, {still(1), phasors(0, 0), shown(), 1, api.ErrNone}, {nil, nil, shown(), 1, api.ErrNone},
	} {
		n, e := grid.Joined(x.grids, x.generators, x.w, x.hold)
		expect.Result(t, "Joined", n, e, 0, x.e)
	}
	for _, x := range []struct {
		grids, generators []api.Gauss
		e                 api.Errno
	}{
		{phasors(0, 0), nil, api.ErrShape}, {nil, phasors(0, 0), api.ErrShape}, {still(3), phasors(10, 0, -10, 0), api.ErrShape}, {phasors(10, 0, -10, 0), still(3), api.ErrShape}, {phasors(10, 0, 10, 0, 0, 0), phasors(10, 0, -10, 0, 10, 0), api.ErrZero}, {still(3), phasors(10, 0, -10, 0, 0, 0), api.ErrZero}, {phasors(0, 0), phasors(0, 0), api.ErrZero}, {phasors(0, 0), phasors(1, 0), api.ErrZero}, {phasors(1, 0), phasors(0, 0), api.ErrZero},
	} {
		n, e := grid.Slip(x.grids, x.generators)
		expect.Result(t, "Slip", n, e, 0, x.e)
	}
	name, e := grid.Mode(nil, [3]string{"a", "b", ""})
	expect.Result(t, "Mode of no samples with a wrong name", name, e, "", api.ErrName)
	name, e = grid.Mode(nil, sways())
	expect.Result(t, "Mode of no samples", name, e, "", api.ErrEmpty)
	n, e := grid.Winding([]complex128{-1, 300})
	expect.Result(t, "Winding through -1, with a wrong response", n, e, 0, api.ErrRange)
}

// TestErrorsOfDispatches checks both errors of the units of a quarter hour, one quarter hour after the other.
func TestErrorsOfDispatches(t *testing.T) {
	p, l := plant(0, 0, 30), hours(1, 0, 2, 0, 3, 30)
	for _, x := range []struct {
		d []int
		e api.Errno
	}{
		{ints(0, 0, 30), api.OK}, {ints(1, 0, 0), api.ErrShort}, {ints(0, 30, 0), api.ErrShort}, {ints(1, -1, 0), api.ErrShort}, {ints(0, 2, 31), api.ErrShort}, {ints(31, 0, 0), api.ErrRange}, {ints(-1, 1, 0), api.ErrRange}, {ints(0, 31, 0), api.ErrRange}, {ints(0, -1, 1), api.ErrRange}, {ints(0, 0, 31), api.ErrRange}, {ints(30, 30, 30, 30), api.ErrShape}, {ints(1), api.ErrShape},
	} {
		_, e := grid.CheckDispatch(p, l, x.d)
		expect.Err(t, "CheckDispatch", e, x.e)
		_, e = grid.Levels(p, l, x.d)
		expect.Err(t, "Levels", e, x.e)
	}
	// what was spilled is not there any more
	_, e := grid.CheckDispatch(plant(3, 3, 9), hours(1, 5, 1, 0), ints(0, 4))
	expect.Err(t, "CheckDispatch of what was spilled", e, api.ErrShort)
}

// TestErrorsWithoutMirrors checks that no mirror can be washed where there is none.
func TestErrorsWithoutMirrors(t *testing.T) {
	for _, n := range ints(0, 1, -1) {
		l, lost, e := grid.Soiled(nil, 1, [][]int{{}, {n}})
		if len(l) != 0 || lost != 0 || e != api.ErrUnknown {
			t.Errorf("Soiled without the mirror %d: %v, %d, error %d", n, l, lost, e)
		}
	}
}
