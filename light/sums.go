package light

import (
	"slices"

	"spillage/api"
	"spillage/common"
)

// Added returns the sum of two maps.
func Added(a, b Map) (Map, api.Errno) {
	if e := common.First(CheckMap(a), CheckMap(b)); e != api.OK {
		return Map{}, e
	}
	if a.Width != b.Width || a.Height != b.Height {
		return Map{}, api.ErrShape
	}
	g, h := gridOf(a), gridOf(b)
	return painted(g.width, g.height, func(p api.Point) int { return g.at(p) + h.at(p) })
}

// Scaled returns the scaled map.
func Scaled(m Map, num, den int) (Map, api.Errno) {
	if e := common.First(CheckMap(m), common.CheckRange(num, -MaxScale, MaxScale), common.CheckRange(den, 1, MaxScale)); e != api.OK {
		return Map{}, e
	}
	g := gridOf(m)
	g.cells = common.Mapped(g.cells, func(n int) int { return common.Rounded(n*num, den) })
	return g.toMap()
}

// Spread returns the map that is spread by a share.
func Spread(m Map, share int) (Map, api.Errno) {
	if e := common.First(CheckMap(m), common.CheckRange(share, 0, MaxShare)); e != api.OK {
		return Map{}, e
	}
	g := gridOf(m)
	out := g
	out.cells = slices.Clone(g.cells)
	for p := range common.Places(g.width, g.height) {
		gift := common.Lowered(g.at(p)*share, 16)
		for _, q := range neighbours(g, p) {
			out.cells[g.index(p)] -= gift
			out.cells[g.index(q)] += gift
		}
	}
	return out.toMap()
}

// neighbours returns the places left, right, above and below, as far as there
// are some.
func neighbours(g grid, p api.Point) []api.Point {
	var l []api.Point
	for _, q := range common.Beside(p) {
		if g.has(q) {
			l = append(l, q)
		}
	}
	return l
}

// Binned returns the map that is binned by a step.
func Binned(m Map, step int) (Map, api.Errno) {
	if e := common.First(CheckMap(m), checkSide(step)); e != api.OK {
		return Map{}, e
	}
	if m.Width%step != 0 || m.Height%step != 0 {
		return Map{}, api.ErrShape
	}
	g := gridOf(m)
	return painted(g.width/step, g.height/step, func(p api.Point) int {
		sum := 0
		for q := range common.Places(step, step) {
			sum += g.at(api.Point{X: p.X*step + q.X, Y: p.Y*step + q.Y})
		}
		return sum
	})
}
