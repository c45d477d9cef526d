package beam

import (
	"slices"

	"spillage/api"
	"spillage/common"
	"spillage/light"
)

// The kinds of stations.
const (
	focus   = "focus"
	standby = "standby"
	stow    = "stow"
)

var kinds = [3]string{focus, standby, stow}

func isKind(word string) bool {
	for _, kind := range kinds {
		if word == kind {
			return true
		}
	}
	return false
}

func checkName(name string) api.Errno {
	return common.When(!light.IsName(name), api.ErrName)
}

func checkPlace(p api.Point) api.Errno {
	return common.CheckPoint(p, 0, MaxPlane)
}

func checkBlur(blur int) api.Errno {
	return common.CheckRange(blur, 0, MaxBlur)
}

func checkStations(l []Station) api.Errno {
	return common.CheckDistinct(l, MaxStations,
		func(s Station) api.Errno { return checkName(s.Name) },
		func(s Station) string { return s.Name },
		func(s Station) api.Errno { return common.When(!isKind(s.Kind), api.ErrKind) },
		func(s Station) api.Errno { return checkPlace(s.Place) },
	)
}

// checkMoves returns the first error of moves between so many stations.
func checkMoves(l []Move, stations int) api.Errno {
	check := func(m Move) api.Errno {
		return common.First(
			common.When(m.From < 0 || m.From >= stations, api.ErrUnknown),
			common.When(m.To < 0 || m.To >= stations, api.ErrUnknown),
			common.When(m.From >= m.To, api.ErrOrder),
		)
	}
	return common.CheckDistinct(l, MaxMoves, check,
		func(m Move) [2]int { return [2]int{m.From, m.To} },
		func(m Move) api.Errno { return common.CheckRange(m.Steps, 1, MaxSteps) },
	)
}

func checkZoneName(z Zone) api.Errno {
	return checkName(z.Name)
}

func checkCircle(z Zone) api.Errno {
	return common.First(checkPlace(z.Centre), common.CheckRange(z.Radius, 0, MaxRadius))
}

func checkZones(l []Zone) api.Errno {
	return common.CheckDistinct(l, MaxZones, checkZoneName, func(z Zone) string { return z.Name }, checkCircle)
}

// CheckGrid returns the first error of a grid, or OK.
func CheckGrid(g Grid) api.Errno {
	return common.First(
		checkBlur(g.Blur),
		checkStations(g.Stations),
		checkMoves(g.Moves, len(g.Stations)),
		checkZones(g.Zones),
	)
}

// line leads straight from a place to another one, or to the same one.
type line [2]api.Point

// offset returns the way from a place to another one.
func offset(from, to api.Point) common.Parts {
	return common.Parts{to.X - from.X, to.Y - from.Y}
}

// isNear reports whether two places are within a reach of each other.
func isNear(a, b api.Point, reach int) bool {
	way := offset(a, b)
	return way.Dot(way) <= reach*reach
}

// touches reports whether some point of the line is within a reach of a centre.
func (l line) touches(centre api.Point, reach int) bool {
	if l == (line{l[0], l[0]}) {
		return isNear(l[0], centre, reach)
	}
	way, aside := offset(l[0], l[1]), offset(l[0], centre)
	square, foot := way.Dot(way), way.Dot(aside)
	if foot < 0 || foot > square {
		return isNear(l[0], centre, reach) || isNear(l[1], centre, reach)
	}
	cross := way.Cross(aside)[common.Up]
	return cross*cross <= reach*reach*square
}

// Touches reports whether a line touches a zone.
func Touches(z Zone, blur int, line [2]api.Point) (bool, api.Errno) {
	e := common.First(
		checkZoneName(z),
		checkCircle(z),
		checkBlur(blur),
		checkPlace(line[0]),
		checkPlace(line[1]),
	)
	if e != api.OK {
		return false, e
	}
	return isTouched(z, blur, line), api.OK
}

func isTouched(z Zone, blur int, l line) bool {
	return l.touches(z.Centre, z.Radius+blur)
}

// isClear reports whether a line touches no zone of the grid.
func (g Grid) isClear(l line) bool {
	return !slices.ContainsFunc(g.Zones, func(z Zone) bool { return isTouched(z, g.Blur, l) })
}

// safeMoves returns the indices of the safe moves.
func (g Grid) safeMoves() []int {
	var moves []int
	for i, m := range g.Moves {
		if g.isClear(line{g.Stations[m.From].Place, g.Stations[m.To].Place}) {
			moves = append(moves, i)
		}
	}
	return moves
}

// SafeMoves returns the indices of the safe moves.
func SafeMoves(g Grid) ([]int, api.Errno) {
	if e := CheckGrid(g); e != api.OK {
		return nil, e
	}
	return g.safeMoves(), api.OK
}
