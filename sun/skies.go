package sun

import (
	"iter"

	"spillage/api"
	"spillage/common"
	"spillage/light"
)

// CheckSky returns the first error of a sky, or OK.
func CheckSky(s Sky) api.Errno {
	e := common.First(
		common.When(!light.IsName(s.Name), api.ErrName),
		common.When(len(s.Suns) < 2, api.ErrShort),
		common.When(len(s.Suns) > MaxSuns, api.ErrMany),
	)
	if e != api.OK {
		return e
	}
	for i := range s.Suns {
		if e := checkSun(s.Suns, i); e != api.OK {
			return e
		}
	}
	return api.OK
}

// checkSun returns the first error of the told sun with an index, or OK, if
// those before it have none.
func checkSun(l []Sun, i int) api.Errno {
	tick, direction := l[i].Tick, common.PartsOf(l[i].Direction)
	told := common.PartsOf(l[0].Direction)
	return common.First(
		common.CheckRange(tick, 0, api.MaxTick),
		common.When(i > 0 && tick <= l[i-1].Tick, api.ErrOrder),
		common.When(i > 0 && tick-l[i-1].Tick > MaxGap, api.ErrSpan),
		CheckRay(l[i].Direction),
		common.When(direction.Dot(direction) != told.Dot(told), api.ErrShape),
	)
}

// At returns the sun at a tick.
func At(s Sky, tick int) (api.Vector, api.Errno) {
	if e := CheckSky(s); e != api.OK {
		return api.Vector{}, e
	}
	if tick < s.Suns[0].Tick || tick > s.Suns[len(s.Suns)-1].Tick {
		return api.Vector{}, api.ErrSpan
	}
	p := sunAt(s.Suns, tick)
	if p == (common.Parts{}) {
		return api.Vector{}, api.ErrNone
	}
	return p.Reduced().Vector(), api.OK
}

// sunAt returns the sun at a tick of a sky, not reduced; all of its parts are 0
// if there is none. At the tick of a told sun that sun alone is in the sum.
func sunAt(l []Sun, tick int) common.Parts {
	from, to := around(l, tick)
	a, b := common.PartsOf(from.Direction), common.PartsOf(to.Direction)
	return a.Times(to.Tick - tick).Plus(b.Times(tick - from.Tick))
}

// around returns two successive told suns such that a tick is not before the
// first one, nor after the second one.
func around(l []Sun, tick int) (Sun, Sun) {
	next := 1
search:
	for i, x := range l[1:] {
		if tick <= x.Tick {
			next += i
			break search
		}
	}
	return l[next-1], l[next]
}

// ticks visits the ticks of a sky, each one with the sun at it, as sunAt tells
// it.
func ticks(s Sky) iter.Seq2[int, common.Parts] {
	return func(yield func(int, common.Parts) bool) {
		for tick := s.Suns[0].Tick; tick <= s.Suns[len(s.Suns)-1].Tick; tick++ {
			if !yield(tick, sunAt(s.Suns, tick)) {
				return
			}
		}
	}
}

// Risen reports whether the sun has risen at a tick.
func Risen(s Sky, tick int) (bool, api.Errno) {
	v, e := At(s, tick)
	return v.Z > 0, e
}

// Daylight returns the spans of ticks at which the sun has risen.
func Daylight(s Sky) ([]api.Span, api.Errno) {
	if e := CheckSky(s); e != api.OK {
		return nil, e
	}
	var spans []api.Span
	for tick, p := range ticks(s) {
		if p[common.Up] > 0 {
			spans = common.Extended(spans, tick)
		}
	}
	return spans, api.OK
}

// Highest returns the index of the highest told sun.
func Highest(s Sky) (int, api.Errno) {
	if e := CheckSky(s); e != api.OK {
		return 0, e
	}
	highest := 0
	for i, x := range s.Suns {
		if x.Direction.Z > s.Suns[highest].Direction.Z {
			highest = i
		}
	}
	return highest, api.OK
}
