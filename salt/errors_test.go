package salt_test

import (
	"testing"

	"spillage/api"
	"spillage/expect"
	"spillage/salt"
)

// P8.1 to P8.4: the errors of arguments, which all functions have in common.

func TestRightArguments(t *testing.T) {
	expect.RightArguments(t, calls(), rightArguments)
}

// TestTheFirstWrongArgumentDecides checks each fault of each argument, alone and before faults of the arguments behind it.
func TestTheFirstWrongArgumentDecides(t *testing.T) {
	expect.FirstFaults(t, calls(), rightArguments, faults(), isNothing)
}

// TestErrorsOfWhatIsFoundComeLast checks that an argument that is wrong decides before what its function finds.
func TestErrorsOfWhatIsFoundComeLast(t *testing.T) {
	x, b, e := salt.Stepped(r(), at(empty, 0), step(start, 0, 11))
	if x != (salt.Receiver{}) || b != (salt.Balance{}) || e != api.ErrRange {
		t.Errorf("Stepped by an act that is not permitted, with a wrong flow: %v, %v, error %d", x, b, e)
	}
	fails := step(drain, 0, 0)
	for i, bad := range steps(step("go", 0, 0), step(wait, -1, 0), step(wait, 0, 11)) {
		x, b, n, e := salt.Run(r(), at(running, 300), steps(fails, bad))
		if wanted := []api.Errno{api.ErrKind, api.ErrRange, api.ErrRange}[i]; x != (salt.Receiver{}) || b != (salt.Balance{}) || n != 0 || e != wanted {
			t.Errorf("Run of a step that fails, and a wrong one: %v, %v, index %d, error %d, want %d", x, b, n, e, wanted)
		}
	}
	for i, bad := range tolds(told("go", 0, 0, 0), told(wait, -1, 0, 0), told(wait, 0, 1000001, 0), told(wait, 2, 1, 0), told(wait, 0, 0, 11)) {
		h, n, e := salt.Sure(r(), at(running, 300), tolds(told(drain, 0, 0, 0), bad))
		if wanted := []api.Errno{api.ErrKind, api.ErrRange, api.ErrRange, api.ErrOrder, api.ErrRange}[i]; h != (api.Interval{}) || n != 0 || e != wanted {
			t.Errorf("Sure of a step that fails, and a wrong one: %v, index %d, error %d, want %d", h, n, e, wanted)
		}
	}
	for _, x := range []struct {
		t            salt.Tank
		amount, heat int
		e            api.Errno
	}{{shown(), 71, -1, api.ErrRange}, {shown(), 1000001, 0, api.ErrRange}, {shown(), 71, 1000000000, api.ErrLarge}, {tower(16), 1, 1000000000, api.ErrOver}, {tower(16), 85, 1, api.ErrLarge}, {tower(16), 1, 1, api.ErrMany}} {
		y, e := salt.Charged(x.t, x.amount, x.heat)
		wantTank(t, "Charged", y, e, salt.Tank{}, x.e)
	}
	y, e := salt.Mixed(salt.Tank{})
	wantTank(t, "Mixed without room and layers", y, e, salt.Tank{}, api.ErrRange)
}
