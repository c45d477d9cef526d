package cloud

import (
	"spillage/api"
	"spillage/common"
)

// segment leads straight from a point to another one, or to the same one.
type segment [2]api.Point

func checkSegment(s [2]api.Point) api.Errno {
	return common.First(checkPoint(s[0]), checkPoint(s[1]))
}

// extent returns the least intervals that hold the X, and the Y, of both ends.
func (s segment) extent() [2]api.Interval {
	from, to := s[0], s[1]
	return [2]api.Interval{
		{Low: min(from.X, to.X), High: max(from.X, to.X)},
		{Low: min(from.Y, to.Y), High: max(from.Y, to.Y)},
	}
}

// isNear reports whether the extents of two segments have a point in common.
func (s segment) isNear(r segment) bool {
	a, b := s.extent(), r.extent()
	for i := range a {
		if isEmpty(common.Shared(a[i], b[i])) {
			return false
		}
	}
	return true
}

// parts reports whether both ends of a segment lie strictly on one side of the
// line of s.
func (s segment) parts(r segment) bool {
	first, second := common.Left(s[0], s[1], r[0]), common.Left(s[0], s[1], r[1])
	return common.Sign(first)*common.Sign(second) > 0
}

// crosses reports whether two segments have a point in common. Where all ends lie
// on one line, none of both parts the other one, and their extents decide.
func (s segment) crosses(r segment) bool {
	return s.isNear(r) && !s.parts(r) && !r.parts(s)
}

// Cross reports whether two segments cross.
func Cross(a, b [2]api.Point) (bool, api.Errno) {
	if e := common.First(checkSegment(a), checkSegment(b)); e != api.OK {
		return false, e
	}
	return segment(a).crosses(b), api.OK
}

// Alarms returns the indices of the beams that a track crosses.
func Alarms(track []api.Point, beams [][2]api.Point) ([]int, api.Errno) {
	e := common.First(
		common.When(len(track) < 2, api.ErrShort),
		common.CheckList(track, MaxTrack, checkPoint),
		common.CheckList(beams, MaxBeams, checkSegment),
	)
	if e != api.OK {
		return nil, e
	}
	var alarms []int
search:
	for i, beam := range beams {
		for k, to := range track[1:] {
			if (segment{track[k], to}).crosses(beam) {
				alarms = append(alarms, i)
				continue search
			}
		}
	}
	return alarms, api.OK
}
