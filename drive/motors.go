package drive

import (
	"spillage/api"
	"spillage/common"
)

// pose is a state with its axis.
type pose struct {
	Axis
	State
}

// permits reports whether a step leads to a count within the axis.
func (p pose) permits(step int) bool {
	return step >= p.Least-p.Motor && step <= p.Most-p.Motor
}

// moved changes a copy of the pose by a step.
func (p pose) moved(step int) pose {
	p.Motor += step
	p.Mirror.Low = clamped(p.Mirror.Low, p.Motor-p.Play, p.Motor)
	p.Mirror.High = clamped(p.Mirror.High, p.Motor-p.Play, p.Motor)
	return p
}

// clamped returns the number from low to high that is next to n.
func clamped(n, low, high int) int {
	return min(max(n, low), high)
}

func checkCount(n int) api.Errno {
	return common.CheckRange(n, -MaxCount, MaxCount)
}

// CheckAxis returns the first error of an axis, or OK.
func CheckAxis(a Axis) api.Errno {
	return common.First(
		common.CheckInterval(api.Interval{Low: a.Least, High: a.Most}, -MaxCount, MaxCount),
		common.CheckRange(a.Play, 0, MaxPlay),
	)
}

// CheckState returns the first error of an axis and a state, or OK.
func CheckState(a Axis, s State) api.Errno {
	return common.First(
		CheckAxis(a),
		common.CheckRange(s.Motor, a.Least, a.Most),
		common.When(s.Mirror.Low > s.Mirror.High, api.ErrOrder),
		common.When(s.Mirror.Low < s.Motor-a.Play || s.Mirror.High > s.Motor, api.ErrConflict),
	)
}

// Moved returns the state after steps.
func Moved(a Axis, s State, steps []int) (State, api.Errno) {
	if e := common.First(CheckState(a, s), common.When(len(steps) > MaxSteps, api.ErrMany)); e != api.OK {
		return State{}, e
	}
	p := pose{a, s}
	for _, step := range steps {
		if !p.permits(step) {
			return State{}, api.ErrLimit
		}
		p = p.moved(step)
	}
	return p.State, api.OK
}

// Referenced returns the state after a reference run, and its steps.
func Referenced(a Axis, s State) (State, []int, api.Errno) {
	steps := []int{a.Least - s.Motor, a.Play}
	after, e := Moved(a, s, steps)
	if e != api.OK {
		return State{}, nil, e
	}
	return after, steps, api.OK
}

// Track returns the counts of two motors, tick by tick.
func Track(from, to, rates [2]int) ([][2]int, api.Errno) {
	e := common.First(
		common.First(common.Mapped(from[:], checkCount)...),
		common.First(common.Mapped(to[:], checkCount)...),
		common.First(common.Mapped(rates[:], func(n int) api.Errno { return common.CheckRange(n, 1, MaxRate) })...),
	)
	if e != api.OK {
		return nil, e
	}
	track := [][2]int{from}
	for at := from; at != to; {
		at = nearer(at, to, rates)
		track = append(track, at)
	}
	return track, api.OK
}

// nearer returns the counts of two motors after a tick.
func nearer(at, to, rates [2]int) [2]int {
	for i := range 2 {
		at[i] += clamped(to[i]-at[i], -rates[i], rates[i])
	}
	return at
}
