package light

import (
	"spillage/api"
	"spillage/common"
)

// grid is a map whose samples are told by their integers.
type grid struct {
	width  int
	height int
	cells  []int
}

func gridOf(m Map) grid {
	return grid{width: m.Width, height: m.Height, cells: common.Mapped(m.Samples, common.IntegerOf)}
}

func (g grid) has(p api.Point) bool {
	return common.IsPlace(p, g.width, g.height)
}

func (g grid) index(p api.Point) int {
	return p.Y*g.width + p.X
}

func (g grid) at(p api.Point) int {
	return g.cells[g.index(p)]
}

// toMap returns the map with the integers of the grid, or ErrLarge if one of
// them is that of no sample.
func (g grid) toMap() (Map, api.Errno) {
	for _, n := range g.cells {
		if n < -maxInteger || n > maxInteger {
			return Map{}, api.ErrLarge
		}
	}
	return Map{Width: g.width, Height: g.height, Samples: common.Mapped(g.cells, common.SampleOf)}, api.OK
}

// painted returns the map whose integers a function tells for each place.
func painted(width, height int, cell func(api.Point) int) (Map, api.Errno) {
	cells := make([]int, 0, width*height)
	for p := range common.Places(width, height) {
		cells = append(cells, cell(p))
	}
	return grid{width: width, height: height, cells: cells}.toMap()
}

// CheckMap returns the first error of a map, or OK.
func CheckMap(m Map) api.Errno {
	if e := common.First(checkSide(m.Width), checkSide(m.Height)); e != api.OK {
		return e
	}
	if len(m.Samples) != m.Width*m.Height {
		return api.ErrShape
	}
	return common.First(common.Mapped(m.Samples, CheckSample)...)
}

func checkSide(n int) api.Errno {
	return common.CheckRange(n, 1, api.MaxSide)
}

// At returns the sample at a place.
func At(m Map, p api.Point) (float32, api.Errno) {
	if e := CheckMap(m); e != api.OK {
		return 0, e
	}
	g := gridOf(m)
	if !g.has(p) {
		return 0, api.ErrUnknown
	}
	return common.SampleOf(g.at(p)), api.OK
}

// Total returns the light of a map.
func Total(m Map) (int, api.Errno) {
	if e := CheckMap(m); e != api.OK {
		return 0, e
	}
	total := 0
	for _, n := range gridOf(m).cells {
		total += n
	}
	return total, api.OK
}

// Peak returns the greatest sample, and its first place.
func Peak(m Map) (float32, api.Point, api.Errno) {
	if e := CheckMap(m); e != api.OK {
		return 0, api.Point{}, e
	}
	g := gridOf(m)
	peak := api.Point{}
	for p := range common.Places(g.width, g.height) {
		if g.at(p) > g.at(peak) {
			peak = p
		}
	}
	return common.SampleOf(g.at(peak)), peak, api.OK
}

// Part returns the part of a map in some columns and rows.
func Part(m Map, columns, rows api.Span) (Map, api.Errno) {
	if e := CheckMap(m); e != api.OK {
		return Map{}, e
	}
	if e := common.First(checkSpan(columns, m.Width), checkSpan(rows, m.Height)); e != api.OK {
		return Map{}, e
	}
	g := gridOf(m)
	corner := api.Point{X: columns.From, Y: rows.From}
	return painted(columns.To-columns.From, rows.To-rows.From, func(p api.Point) int {
		return g.at(common.Plus(corner, p))
	})
}

// checkSpan returns ErrSpan for a span that is empty, or not within a length.
func checkSpan(s api.Span, length int) api.Errno {
	if s.From < 0 || s.From >= s.To || s.To > length {
		return api.ErrSpan
	}
	return api.OK
}

// Placed returns a map that is placed on a greater one.
func Placed(m Map, width, height int, at api.Point) (Map, api.Errno) {
	if e := common.First(CheckMap(m), checkSide(width), checkSide(height)); e != api.OK {
		return Map{}, e
	}
	// The differences of sides cannot overflow, as sums with the point could.
	if at.X < 0 || at.X > width-m.Width || at.Y < 0 || at.Y > height-m.Height {
		return Map{}, api.ErrSpan
	}
	g := gridOf(m)
	return painted(width, height, func(p api.Point) int {
		q := common.Minus(p, at)
		if !g.has(q) {
			return 0
		}
		return g.at(q)
	})
}

// Flipped returns the flipped map.
func Flipped(m Map) (Map, api.Errno) {
	if e := CheckMap(m); e != api.OK {
		return Map{}, e
	}
	g := gridOf(m)
	return painted(g.width, g.height, func(p api.Point) int {
		return g.at(api.Point{X: g.width - 1 - p.X, Y: p.Y})
	})
}

// Turned returns the turned map.
func Turned(m Map) (Map, api.Errno) {
	if e := CheckMap(m); e != api.OK {
		return Map{}, e
	}
	g := gridOf(m)
	return painted(g.height, g.width, func(p api.Point) int {
		return g.at(api.Point{X: p.Y, Y: g.height - 1 - p.X})
	})
}
