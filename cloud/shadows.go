package cloud

import (
	"slices"

	"spillage/api"
	"spillage/common"
	"spillage/light"
)

// Covered returns the cells that are covered after t ticks for a motion.
func Covered(m light.Map, limit float32, motion api.Point, ticks, t int) ([]api.Point, api.Errno) {
	s, e := skyOf(m, limit)
	if e = common.First(e, checkMotion(motion), checkTicks(ticks), checkAhead(t)); e != api.OK {
		return nil, e
	}
	by := moved(motion, ticks, t)
	return common.Mapped(s.dark, func(p api.Point) api.Point { return common.Plus(p, by) }), api.OK
}

// forecast is a sky with the drift of its clouds.
type forecast struct {
	sky
	Drift
}

// forecastOf returns the forecast of an image, or the first error of what it
// follows from.
func forecastOf(m light.Map, limit float32, d Drift) (forecast, api.Errno) {
	s, e := skyOf(m, limit)
	return forecast{sky: s, Drift: d}, common.First(e, CheckDrift(d))
}

// covers reports whether a cell is covered after t ticks for a motion.
func (f forecast) covers(cell api.Point, t int, motion api.Point) bool {
	return f.isDark[common.Minus(cell, moved(motion, f.Ticks, t))]
}

// may reports whether a cell may be covered after t ticks.
func (f forecast) may(cell api.Point, t int) bool {
	return slices.ContainsFunc(f.motions(), func(motion api.Point) bool {
		return f.covers(cell, t, motion)
	})
}

// must reports whether a cell must be covered after t ticks.
func (f forecast) must(cell api.Point, t int) bool {
	return !slices.ContainsFunc(f.motions(), func(motion api.Point) bool {
		return !f.covers(cell, t, motion)
	})
}

// told returns what a forecast says of each of some cells.
func told(m light.Map, limit float32, d Drift, t int, cells []api.Point, say func(f forecast, cell api.Point, t int) bool) ([]bool, api.Errno) {
	f, e := forecastOf(m, limit, d)
	if e = common.First(e, checkAhead(t), common.CheckList(cells, api.MaxList, checkPoint)); e != api.OK {
		return nil, e
	}
	return common.Mapped(cells, func(cell api.Point) bool { return say(f, cell, t) }), api.OK
}

// May returns for each cell whether it may be covered.
func May(m light.Map, limit float32, d Drift, t int, cells []api.Point) ([]bool, api.Errno) {
	return told(m, limit, d, t, cells, forecast.may)
}

// Must returns for each cell whether it must be covered.
func Must(m light.Map, limit float32, d Drift, t int, cells []api.Point) ([]bool, api.Errno) {
	return told(m, limit, d, t, cells, forecast.must)
}

// Window returns the window of a cell up to a horizon.
func Window(m light.Map, limit float32, d Drift, cell api.Point, horizon int) (api.Span, api.Errno) {
	f, e := forecastOf(m, limit, d)
	e = common.First(e, checkPoint(cell), common.CheckRange(horizon, 1, MaxAhead))
	if e != api.OK {
		return api.Span{}, e
	}
	var window api.Span
	for t := range horizon + 1 {
		if !f.may(cell, t) {
			continue
		}
		if window == (api.Span{}) {
			window.From = t
		}
		window.To = t + 1
	}
	return window, common.When(window == api.Span{}, api.ErrNone)
}

func checkHeight(height api.Interval) api.Errno {
	return common.CheckInterval(height, 1, MaxHeight)
}

func checkSun(sun api.Vector) api.Errno {
	return common.First(
		common.CheckDirection(sun, MaxSun),
		common.When(sun.Z <= 0, api.ErrSpan),
	)
}

// shadowAt returns the integers next to each offset of the shadow of a cloud in
// one height.
func shadowAt(height int, sun api.Vector) [2]api.Interval {
	var shadow [2]api.Interval
	for i, part := range [2]int{sun.X, sun.Y} {
		offset := -part * height
		shadow[i] = api.Interval{Low: common.Lowered(offset, sun.Z), High: common.Raised(offset, sun.Z)}
	}
	return shadow
}

// Shadow returns the intervals of the offsets of a shadow.
func Shadow(height api.Interval, sun api.Vector) ([2]api.Interval, api.Errno) {
	if e := common.First(checkHeight(height), checkSun(sun)); e != api.OK {
		return [2]api.Interval{}, e
	}
	shadow, highest := shadowAt(height.Low, sun), shadowAt(height.High, sun)
	if shadow != highest {
		for i, x := range highest {
			shadow[i] = hull(shadow[i], x)
		}
	}
	return shadow, api.OK
}

// hull returns the least interval with all integers of two intervals.
func hull(a, b api.Interval) api.Interval {
	return api.Interval{Low: min(a.Low, b.Low), High: max(a.High, b.High)}
}
