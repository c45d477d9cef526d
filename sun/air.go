package sun

import (
	"spillage/api"
	"spillage/common"
)

// fineness is the factor of the parts of a ray, next to which lifts count.
const fineness = 64

// CheckAir returns the first error of air, or OK.
func CheckAir(l []Step) api.Errno {
	if len(l) > MaxSteps {
		return api.ErrMany
	}
	return common.CheckAscending(l, checkStep, func(before, x Step) bool { return before.From < x.From })
}

func checkStep(x Step) api.Errno {
	return common.First(
		common.CheckRange(x.From, -MaxSteep, MaxSteep),
		common.CheckRange(x.Lift, 0, MaxLift),
	)
}

// placed is a step with its place in the air; nowhere is the place of no step.
type placed struct {
	Step
	place int
}

const nowhere = -1

// stepsOf returns all steps with their places; the first one is no step.
func stepsOf(l []Step) []placed {
	steps := []placed{{place: nowhere}}
	for i, x := range l {
		steps = append(steps, placed{Step: x, place: i})
	}
	return steps
}

// stepOf returns the step, or no step, from which a direction has its lift.
func stepOf(steps []placed, p common.Parts) placed {
	last := steps[0]
	for _, x := range steps[1:] {
		if flat(p) > 0 && x.From*flat(p) <= fineness*p[common.Up] {
			last = x
		}
	}
	return last
}

// flat returns the sum of the absolute values of X and Y.
func flat(p common.Parts) int {
	return max(p[common.East], -p[common.East]) + max(p[common.North], -p[common.North])
}

// lifted returns a direction with a lift, not reduced.
func lifted(p common.Parts, lift int) common.Parts {
	return p.Times(fineness).Plus(axes[common.Up].Times(lift * flat(p)))
}

// Bent returns a ray, bent by air.
func Bent(l []Step, v api.Vector) (api.Vector, api.Errno) {
	if e := common.First(CheckAir(l), CheckRay(v)); e != api.OK {
		return api.Vector{}, e
	}
	p := common.PartsOf(v)
	return lifted(p, stepOf(stepsOf(l), p).Lift).Reduced().Vector(), api.OK
}

// Unbent returns all rays that are bent to a ray. The lift of each step leads
// one direction to the ray, which counts if that step is the one of its lift.
func Unbent(l []Step, v api.Vector) ([]api.Vector, api.Errno) {
	if e := common.First(CheckAir(l), CheckRay(v)); e != api.OK {
		return nil, e
	}
	var found []common.Parts
	steps := stepsOf(l)
	for _, x := range steps {
		p := lifted(common.PartsOf(v), -x.Lift)
		if stepOf(steps, p) == x {
			found = append(found, p)
		}
	}
	return common.Mapped(common.Mapped(found, common.Parts.Reduced), common.Parts.Vector), api.OK
}
