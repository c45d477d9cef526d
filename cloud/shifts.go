package cloud

import (
	"cmp"
	"slices"

	"spillage/api"
	"spillage/common"
	"spillage/light"
)

// checkPair returns the first error of two images of one width and height.
func checkPair(a, b light.Map) api.Errno {
	return common.First(
		CheckImage(a),
		CheckImage(b),
		common.When(a.Width != b.Width || a.Height != b.Height, api.ErrShape),
	)
}

// compared returns the difference of two images by a shift, and the number of
// common cells.
func compared(a, b light.Map, shift api.Point) (int, int) {
	sum, count := 0, 0
	for p, n := range cellsOf(a) {
		q := common.Plus(p, shift)
		if common.IsPlace(q, b.Width, b.Height) {
			by := n - common.IntegerOf(b.Samples[q.Y*b.Width+q.X])
			sum += by * by
			count++
		}
	}
	return sum, count
}

// Difference returns the difference of two images by a shift, and the number of common cells.
func Difference(a, b light.Map, shift api.Point) (int, int, api.Errno) {
	if e := common.First(checkPair(a, b), checkPoint(shift)); e != api.OK {
		return 0, 0, e
	}
	sum, count := compared(a, b, shift)
	return sum, count, common.When(count == 0, api.ErrNone)
}

// trial is a shift with its cost.
type trial struct {
	api.Point
	cost api.Ratio
}

// steps returns the sum of the absolute values of both parts.
func (x trial) steps() int {
	return max(x.X, -x.X) + max(x.Y, -x.Y)
}

// compare returns -1 for a trial that is better than another one.
func (x trial) compare(y trial) int {
	return cmp.Or(
		cmp.Compare(x.cost.Num*y.cost.Den, y.cost.Num*x.cost.Den),
		cmp.Compare(x.steps(), y.steps()),
		inOrder(x.Point, y.Point),
	)
}

func checkSearch(a, b light.Map, most, least int) api.Errno {
	return common.First(
		checkPair(a, b),
		common.CheckRange(most, 0, MaxShift),
		common.CheckRange(least, 1, api.MaxSamples),
	)
}

// permitted returns the permitted shifts with their costs, the best one first.
func permitted(a, b light.Map, most, least int) []trial {
	var trials []trial
	reach := api.Interval{Low: -most, High: most}
	for shift := range common.PlacesIn(reach, reach) {
		if sum, count := compared(a, b, shift); count >= least {
			trials = append(trials, trial{Point: shift, cost: common.Quotient(sum, count)})
		}
	}
	slices.SortFunc(trials, trial.compare)
	return trials
}

// searched returns the permitted shift that is worse than so many others.
func searched(a, b light.Map, most, least, others int) (trial, api.Errno) {
	if e := checkSearch(a, b, most, least); e != api.OK {
		return trial{}, e
	}
	trials := permitted(a, b, most, least)
	if len(trials) <= others {
		return trial{}, api.ErrInfeasible
	}
	return trials[others], api.OK
}

// Shift returns the best shift of two images, and its cost.
func Shift(a, b light.Map, most, least int) (api.Point, api.Ratio, api.Errno) {
	best, e := searched(a, b, most, least, 0)
	return best.Point, best.cost, e
}

// Second returns the second cost.
func Second(a, b light.Map, most, least int) (api.Ratio, api.Errno) {
	second, e := searched(a, b, most, least, 1)
	return second.cost, e
}
