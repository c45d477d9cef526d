package cloud_test

import (
	"testing"

	"spillage/api"
	"spillage/cloud"
	"spillage/expect"
	"spillage/light"
)

// P7.1 to P7.5: the errors of arguments, which all functions have in common.

func TestRightArguments(t *testing.T) {
	expect.RightArguments(t, calls(), rightArguments)
}

// TestTheFirstWrongArgumentDecides checks each fault of each argument, alone and before faults of the arguments behind it.
func TestTheFirstWrongArgumentDecides(t *testing.T) {
	expect.FirstFaults(t, calls(), rightArguments, faults(), isNothing)
}

// TestErrorsOfTwoImages checks that other widths or heights decide after the errors of both images, and before all other arguments.
func TestErrorsOfTwoImages(t *testing.T) {
	bad, broken := drawn("22", "00"), a()
	bad.Samples[3], broken.Samples[11] = -1, nan()
	for _, x := range []struct {
		a, b light.Map
		e    api.Errno
	}{{a(), drawn("2200", "0000"), api.ErrShape}, {a(), drawn("220", "000", "000"), api.ErrShape}, {drawn("2200", "0000"), a(), api.ErrShape}, {a(), drawn("220", "000", "000", "000"), api.ErrShape}, {a(), bad, api.ErrRange}, {bad, a(), api.ErrRange}, {bad, broken, api.ErrRange}, {broken, bad, api.ErrForm}, {a(), light.Map{Width: 4, Height: 4}, api.ErrShape}, {a(), table(1, 1), api.ErrShape}} {
		_, _, e := cloud.Difference(x.a, x.b, at(100001, 0))
		expect.Err(t, "Difference", e, x.e)
		_, _, e = cloud.Difference(x.a, x.b, at(9, 9))
		expect.Err(t, "Difference without common cells", e, x.e)
		_, _, e = cloud.Shift(x.a, x.b, 9, 0)
		expect.Err(t, "Shift", e, x.e)
		_, e = cloud.Second(x.a, x.b, -1, 5000)
		expect.Err(t, "Second", e, x.e)
		_, e = cloud.Seen(x.a, x.b, 1, 4096, 0, 5)
		expect.Err(t, "Seen", e, x.e)
	}
}

func TestErrorsOfTwoDrifts(t *testing.T) {
	turned, wide := drift(1, 0, 0, 0), during(9, to(0, 9), to(0, 0))
	for _, x := range []struct {
		a, b cloud.Drift
		e    api.Errno
	}{{turned, wide, api.ErrOrder}, {wide, turned, api.ErrMany}, {turned, cloud.Drift{}, api.ErrOrder}, {drift(0, 0, 0, 0), wide, api.ErrMany}, {wide, drift(0, 0, 0, 0), api.ErrMany}} {
		d, e := cloud.Both(x.a, x.b)
		expect.Result(t, "Both", d, e, cloud.Drift{}, x.e)
	}
}

// TestErrorsOfWhatIsFoundComeLast checks that an argument that is wrong decides before what its function finds.
func TestErrorsOfWhatIsFoundComeLast(t *testing.T) {
	here, there := drift(0, 1, 1, 1), drift(5, 6, 1, 1)
	want := func(what string, e, wanted api.Errno) {
		t.Helper()
		expect.Err(t, what, e, wanted)
	}
	try := func(n int, difference, seen, conflict, shape, window api.Errno) {
		t.Helper()
		_, _, e := cloud.Difference(a(), b(), at(4, n))
		want("Difference without common cells", e, difference)
		for _, x := range [][2]int{{1 + n, 0}, {1, n}, {10 + n, n}} {
			_, e = cloud.Seen(a(), b(), 8, 13, x[0], x[1])
			want("Seen without a permitted shift", e, seen)
		}
		there.Y.Low, there.Y.High = n, n
		_, e = cloud.Both(here, there)
		want("Both of no motion", e, conflict)
		_, e = cloud.Both(during(9, to(5, 6), to(0, 0)), there)
		want("Both in other ticks", e, shape)
		_, e = cloud.Window(a(), 1, here, at(0, -1), 1+n)
		want("Window of a cell that is not covered", e, window)
	}
	try(0, api.ErrNone, api.ErrInfeasible, api.ErrConflict, api.ErrShape, api.ErrNone)
	for _, n := range expect.Outside(-100000, 100000) {
		try(n, api.ErrRange, api.ErrRange, api.ErrRange, api.ErrRange, api.ErrRange)
	}
}
