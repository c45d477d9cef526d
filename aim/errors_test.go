package aim_test

import (
	"testing"

	"spillage/aim"
	"spillage/api"
	"spillage/expect"
)

// P5.1 to P5.5: the errors of arguments, which all functions have in common.

func TestRightArguments(t *testing.T) {
	expect.RightArguments(t, calls(), rightArguments)
}

// TestTheFirstWrongArgumentDecides checks each fault of each argument, alone and before faults of the arguments behind it.
func TestTheFirstWrongArgumentDecides(t *testing.T) {
	expect.FirstFaults(t, calls(), rightArguments, faults(), isNothing)
}

// TestErrorsOfArgumentsComeFirst checks that an argument that is wrong decides before a plan that is not right, and before a search that is too large.
func TestErrorsOfArgumentsComeFirst(t *testing.T) {
	r, l, hot := shown(60), spots(spotS(), spotT()), ints(1, 1)
	expect.Err(t, "CheckPlan of a hot plan", aim.CheckPlan(r, l, hot), api.ErrOver)
	for _, x := range wrongPrices() {
		n, e := aim.Gap(r, l, hot, x.x)
		expect.Result(t, "Gap of a hot plan with wrong prices", n, e, 0, x.e)
	}
	for _, x := range wrongPlans() {
		order, e := aim.Steps(r, l, hot, x.x)
		expect.List(t, "Steps from a hot plan to none", order, e, nil, x.e)
		order, e = aim.Steps(r, l, x.x, hot)
		expect.List(t, "Steps from none to a hot plan", order, e, nil, x.e)
		expect.Err(t, "CheckSteps from a hot plan to none", aim.CheckSteps(r, l, hot, x.x, nil), x.e)
		expect.Err(t, "CheckSteps from none to a hot plan", aim.CheckSteps(r, l, x.x, hot, nil), x.e)
	}
	for _, x := range wrongOrders() {
		expect.Err(t, "CheckSteps from a hot plan in a wrong order", aim.CheckSteps(r, l, hot, ints(0, 0), x.x), x.e)
		expect.Err(t, "CheckSteps to a hot plan in a wrong order", aim.CheckSteps(r, l, ints(0, 0), hot, x.x), x.e)
	}
	many := append(pixels(8, 1), pixel("m0", 1))
	p, e := aim.Plan(r, many)
	expect.List(t, "Plan of nine mirrors with the same name", p, e, nil, api.ErrTwice)
	p, e = aim.Plan(receiver(0, 1), pixels(9, 1))
	expect.List(t, "Plan of nine mirrors for no receiver", p, e, nil, api.ErrRange)
}
