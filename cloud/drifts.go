package cloud

import (
	"slices"

	"spillage/api"
	"spillage/common"
	"spillage/light"
)

func checkTicks(ticks int) api.Errno {
	return common.CheckRange(ticks, 1, MaxSpan)
}

func checkAhead(t int) api.Errno {
	return common.CheckRange(t, 0, MaxAhead)
}

func checkMotion(motion api.Point) api.Errno {
	return common.CheckPoint(motion, -MaxSteps, MaxSteps)
}

// checkSteps returns the first error of how far clouds move along one axis.
func checkSteps(x api.Interval) api.Errno {
	return common.First(
		common.CheckInterval(x, -MaxSteps, MaxSteps),
		common.When(common.Length(x) > MaxWidth, api.ErrMany),
	)
}

// CheckDrift returns the first error of a drift, or OK.
func CheckDrift(d Drift) api.Errno {
	return common.First(checkTicks(d.Ticks), checkSteps(d.X), checkSteps(d.Y))
}

// Seen returns the drift that was seen between two images.
func Seen(a, b light.Map, most, least, ticks, blur int) (Drift, api.Errno) {
	shift, _, found := Shift(a, b, most, least)
	e := common.First(
		checkSearch(a, b, most, least),
		checkTicks(ticks),
		common.CheckRange(blur, 0, MaxBlur),
		found,
	)
	if e != api.OK {
		return Drift{}, e
	}
	return Drift{Ticks: ticks, X: around(shift.X, blur), Y: around(shift.Y, blur)}, api.OK
}

// around returns the interval of the integers that are at most so far from n.
func around(n, far int) api.Interval {
	return api.Interval{Low: n - far, High: n + far}
}

// Both returns both drifts together.
func Both(a, b Drift) (Drift, api.Errno) {
	e := common.First(
		CheckDrift(a),
		CheckDrift(b),
		common.When(a.Ticks != b.Ticks, api.ErrShape),
	)
	if e != api.OK {
		return Drift{}, e
	}
	both := Drift{Ticks: a.Ticks, X: common.Shared(a.X, b.X), Y: common.Shared(a.Y, b.Y)}
	if isEmpty(both.X) || isEmpty(both.Y) {
		return Drift{}, api.ErrConflict
	}
	return both, api.OK
}

func isEmpty(x api.Interval) bool {
	return x.Low > x.High
}

// motions returns the motions of a right drift, row by row.
func (d Drift) motions() []api.Point {
	return slices.Collect(common.PlacesIn(d.X, d.Y))
}

// Motions returns all motions of a drift.
func Motions(d Drift) ([]api.Point, api.Errno) {
	if e := CheckDrift(d); e != api.OK {
		return nil, e
	}
	return d.motions(), api.OK
}

// moved returns by how much a motion in some ticks has moved a cell after t ticks.
func moved(motion api.Point, ticks, t int) api.Point {
	return api.Point{X: common.Rounded(motion.X*t, ticks), Y: common.Rounded(motion.Y*t, ticks)}
}

// Moved returns by how much a motion has moved after t ticks.
func Moved(motion api.Point, ticks, t int) (api.Point, api.Errno) {
	if e := common.First(checkMotion(motion), checkTicks(ticks), checkAhead(t)); e != api.OK {
		return api.Point{}, e
	}
	return moved(motion, ticks, t), api.OK
}
