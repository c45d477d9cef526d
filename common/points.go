package common

import (
	"spillage/api"
)

// CheckPoint returns ErrRange for a place with a part that is not from low to
// high.
func CheckPoint(p api.Point, low, high int) api.Errno {
	return First(CheckRange(p.X, low, high), CheckRange(p.Y, low, high))
}

// Plus returns the sums of the parts of two points.
func Plus(p, q api.Point) api.Point {
	return api.Point{X: p.X + q.X, Y: p.Y + q.Y}
}

// Minus returns the differences of the parts of two points.
func Minus(p, q api.Point) api.Point {
	return api.Point{X: p.X - q.X, Y: p.Y - q.Y}
}

// Beside returns the points left of a point, right of it, above and below it.
func Beside(p api.Point) [4]api.Point {
	return [4]api.Point{
		{X: p.X - 1, Y: p.Y},
		{X: p.X + 1, Y: p.Y},
		{X: p.X, Y: p.Y - 1},
		{X: p.X, Y: p.Y + 1},
	}
}

// Left is above 0 for a point to the left of the line from one point to another
// one, 0 for a point on it, and below 0 for all others.
func Left(from, to, p api.Point) int {
	way, aside := Minus(to, from), Minus(p, from)
	return way.X*aside.Y - way.Y*aside.X
}
