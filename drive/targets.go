package drive

import (
	"iter"
	"slices"

	"spillage/api"
	"spillage/common"
)

// maxTarget is the greatest place of a target.
const maxTarget = 1 << 32

// outerPairs visits the pairs of a model with the least and the greatest offset
// of each gain: a gain and an offset. All other places lie between theirs.
func outerPairs(m []Band) iter.Seq2[int, int] {
	return func(yield func(int, int) bool) {
		for _, b := range m {
			if !yield(b.Gain, b.Offset.Low) || !yield(b.Gain, b.Offset.High) {
				return
			}
		}
	}
}

// Within returns the places at which the spot may be.
func Within(m []Band, counts api.Interval) (api.Interval, api.Errno) {
	if e := common.First(CheckModel(m), common.CheckInterval(counts, -MaxCount, MaxCount)); e != api.OK {
		return api.Interval{}, e
	}
	return places(m, counts), api.OK
}

// places returns the places within a model for counts.
func places(m []Band, counts api.Interval) api.Interval {
	var ends []int
	for gain, offset := range outerPairs(m) {
		ends = append(ends, offset+gain*counts.Low, offset+gain*counts.High)
	}
	return api.Interval{Low: slices.Min(ends), High: slices.Max(ends)}
}

// checkAim returns the first error of what a motor has to hit, or OK.
func checkAim(a Axis, s State, m []Band, target api.Interval) api.Errno {
	return common.First(
		CheckState(a, s),
		CheckModel(m),
		common.CheckInterval(target, -maxTarget, maxTarget),
	)
}

// CheckInverted returns the places at which the spot may be after one step to a count, if all of them are in the target.
func CheckInverted(a Axis, s State, m []Band, target api.Interval, motor int) (api.Interval, api.Errno) {
	if e := common.First(checkAim(a, s, m, target), common.CheckRange(motor, a.Least, a.Most)); e != api.OK {
		return api.Interval{}, e
	}
	after, hits := hit(pose{a, s}, m, target, motor)
	if !hits {
		return api.Interval{}, api.ErrProof
	}
	return after, api.OK
}

// hit returns the places within a model after one step to a count, and whether
// all of them are in the target.
func hit(p pose, m []Band, target api.Interval, motor int) (api.Interval, bool) {
	after := places(m, p.moved(motor-p.Motor).Mirror)
	return after, common.Shared(after, target) == after
}

// Inverted returns the nearest count for which the target is hit for sure.
func Inverted(a Axis, s State, m []Band, target api.Interval) (int, api.Errno) {
	if e := checkAim(a, s, m, target); e != api.OK {
		return 0, e
	}
	return nearest(pose{a, s}, m, target)
}

// nearest returns the nearest count that hits a target for sure, or
// ErrInfeasible.
func nearest(p pose, m []Band, target api.Interval) (int, api.Errno) {
	found, e := 0, api.ErrInfeasible
search:
	for distance := range p.Most - p.Least + 1 {
		for _, step := range [2]int{-distance, distance} {
			if !p.permits(step) {
				continue
			}
			if _, hits := hit(p, m, target, p.Motor+step); hits {
				found, e = p.Motor+step, api.OK
				break search
			}
		}
	}
	return found, e
}

// Pointed returns the counts of both axes for which a target is hit for sure.
func Pointed(a [2]Axis, s [2]State, m [2][]Band, target [2]api.Interval) ([2]int, api.Errno) {
	for i := range 2 {
		if e := checkAim(a[i], s[i], m[i], target[i]); e != api.OK {
			return [2]int{}, e
		}
	}
	var counts [2]int
	for i := range 2 {
		count, e := nearest(pose{a[i], s[i]}, m[i], target[i])
		if e != api.OK {
			return [2]int{}, e
		}
		counts[i] = count
	}
	return counts, api.OK
}
