package field

import (
	"cmp"
	"iter"
	"math"
	"slices"

	"spillage/api"
	"spillage/common"
)

const minCorners = 3

// edge leads from a corner of a polygon to the next one.
type edge struct {
	from, to api.Point
}

// left is above 0 for a point to the left of the edge's line, 0 for one on it,
// and below 0 for all others.
func (x edge) left(r api.Point) int {
	return common.Left(x.from, x.to, r)
}

// edges visits the edges of a polygon, each one with its index.
func edges(p []api.Point) iter.Seq2[int, edge] {
	return func(yield func(int, edge) bool) {
		for n, corner := range p {
			if !yield(n, edge{from: corner, to: p[(n+1)%len(p)]}) {
				return
			}
		}
	}
}

func checkPoint(x api.Point) api.Errno {
	return common.CheckPoint(x, -MaxPlane, MaxPlane)
}

// CheckPolygon returns the first error of a polygon, or OK.
func CheckPolygon(p []api.Point) api.Errno {
	e := common.First(
		common.When(len(p) < minCorners, api.ErrShort),
		common.When(len(p) > MaxCorners, api.ErrMany),
	)
	if e != api.OK {
		return e
	}
	if e := common.First(common.Mapped(p, checkPoint)...); e != api.OK {
		return e
	}
	return common.When(!isConvex(p), api.ErrShape)
}

// isConvex reports whether each corner that is not on an edge lies strictly to
// the left of it. Corners are told apart by their indices, as two of them may be
// the same point.
func isConvex(p []api.Point) bool {
	for n, x := range edges(p) {
		for i, corner := range p {
			isOn := i == n || i == (n+1)%len(p)
			if !isOn && x.left(corner) <= 0 {
				return false
			}
		}
	}
	return true
}

// Area returns twice the area of a polygon.
func Area(p []api.Point) (int, api.Errno) {
	if e := CheckPolygon(p); e != api.OK {
		return 0, e
	}
	area := 0
	for _, x := range edges(p) {
		area += x.from.X*x.to.Y - x.from.Y*x.to.X
	}
	return area, api.OK
}

// Holds returns 1 for a point inside of a polygon, 0 for one on its edges, and -1 for all others.
func Holds(p []api.Point, x api.Point) (int, api.Errno) {
	if e := common.First(CheckPolygon(p), checkPoint(x)); e != api.OK {
		return 0, e
	}
	least := math.MaxInt
	for _, side := range edges(p) {
		least = min(least, side.left(x))
	}
	return common.Sign(least), api.OK
}

// Apart returns the first edge that parts two polygons.
func Apart(a, b []api.Point) ([2]int, api.Errno) {
	if e := common.First(CheckPolygon(a), CheckPolygon(b)); e != api.OK {
		return [2]int{}, e
	}
	found, e := [2]int{}, api.ErrOverlap
search:
	for which, pair := range [2][2][]api.Point{{a, b}, {b, a}} {
		for n, x := range edges(pair[0]) {
			if x.parts(pair[1]) {
				found, e = [2]int{which, n}, api.OK
				break search
			}
		}
	}
	return found, e
}

// parts reports whether no corner lies strictly to the left of the edge's line.
func (x edge) parts(corners []api.Point) bool {
	return !slices.ContainsFunc(corners, func(r api.Point) bool { return x.left(r) > 0 })
}

// Hull returns the least polygon that holds some points.
func Hull(l []api.Point) ([]api.Point, api.Errno) {
	if e := common.CheckLength(len(l), MaxPoints); e != api.OK {
		return nil, e
	}
	if e := common.First(common.Mapped(l, checkPoint)...); e != api.OK {
		return nil, e
	}
	points := sortedPoints(l)
	lower := border(points)
	slices.Reverse(points)
	hull := append(lower, border(points)...)
	e := common.First(
		common.When(len(hull) < minCorners, api.ErrSingular),
		common.When(len(hull) > MaxCorners, api.ErrMany),
	)
	if e != api.OK {
		return nil, e
	}
	return hull, api.OK
}

// sortedPoints returns a copy of points by their X, then by their Y, each one
// once.
func sortedPoints(l []api.Point) []api.Point {
	points := slices.Clone(l)
	slices.SortFunc(points, func(a, b api.Point) int {
		return cmp.Or(cmp.Compare(a.X, b.X), cmp.Compare(a.Y, b.Y))
	})
	return slices.Compact(points)
}

// border returns the corners of the hull of sorted points from the first point
// on, before the last one, such that no point is to the right of its edges.
func border(points []api.Point) []api.Point {
	var corners []api.Point
	for _, x := range points {
		for n := len(corners); n >= 2 && (edge{corners[n-2], corners[n-1]}).left(x) <= 0; n-- {
			corners = corners[:n-1]
		}
		corners = append(corners, x)
	}
	return corners[:len(corners)-1]
}
