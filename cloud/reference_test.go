package cloud_test

import (
	"math"
	"math/big"
	"slices"

	"spillage/api"
	"spillage/cloud"
	"spillage/light"
)

// What the tests compare results with: the definitions of the chapter, followed as plainly as possible.

// integerAt returns the integer of a cell, or -1 if an image has no such cell.
func integerAt(m light.Map, p api.Point) int {
	if p.X < 0 || p.Y < 0 || p.X >= m.Width || p.Y >= m.Height {
		return -1
	}
	return int(m.Samples[p.Y*m.Width+p.X] * 16)
}

// cellsOf returns all cells of an image, in order.
func cellsOf(m light.Map) []api.Point {
	var l []api.Point
	for y := range m.Height {
		for x := range m.Width {
			l = append(l, at(x, y))
		}
	}
	return l
}

func isDark(m light.Map, limit float32, p api.Point) bool {
	n := integerAt(m, p)
	return n >= 0 && float32(n)/16 >= limit
}

func darkOf(m light.Map, limit float32) []api.Point {
	return slices.DeleteFunc(cellsOf(m), func(p api.Point) bool { return !isDark(m, limit, p) })
}

func areNeighbours(p, q api.Point) bool {
	x, y := p.X-q.X, p.Y-q.Y
	return x*x+y*y == 1
}

// cloudsOf gives each dark cell a number, and neighbours the lesser one of theirs, until they are the same in each cloud.
func cloudsOf(m light.Map, limit float32) []cloud.Cloud {
	dark := darkOf(m, limit)
	numbers := make([]int, len(dark))
	for i := range dark {
		numbers[i] = i
	}
	for changed := true; changed; {
		changed = false
		for i, p := range dark {
			for k, q := range dark {
				if areNeighbours(p, q) && numbers[k] < numbers[i] {
					numbers[i], changed = numbers[k], true
				}
			}
		}
	}
	var l []cloud.Cloud
	for n := range dark {
		var c cloud.Cloud
		for i, p := range dark {
			if numbers[i] == n {
				c = append(c, p)
			}
		}
		if len(c) > 0 {
			l = append(l, c)
		}
	}
	return l
}

// panelOf returns the panel by the powers of -i as turns of a pair of integers.
func panelOf(m light.Map) [4]complex128 {
	var out [4]complex128
	for k := range 4 {
		re, im := 0, 0
		for _, p := range cellsOf(m) {
			n := integerAt(m, p)
			switch k * p.X % 4 {
			case 0:
				re += n
			case 1:
				im -= n
			case 2:
				re -= n
			case 3:
				im += n
			}
		}
		out[k] = complex(float64(re), float64(im))
	}
	return out
}

func differenceOf(a, b light.Map, shift api.Point) (int, int) {
	sum, n := 0, 0
	for _, p := range cellsOf(a) {
		if other := integerAt(b, at(p.X+shift.X, p.Y+shift.Y)); other >= 0 {
			sum += (integerAt(a, p) - other) * (integerAt(a, p) - other)
			n++
		}
	}
	return sum, n
}

// costs returns the costs of the permitted shifts.
func costs(a, b light.Map, most, least int) map[api.Point]*big.Rat {
	l := map[api.Point]*big.Rat{}
	for x := -most; x <= most; x++ {
		for y := -most; y <= most; y++ {
			if sum, n := differenceOf(a, b, at(x, y)); n >= least {
				l[at(x, y)] = big.NewRat(int64(sum), int64(n))
			}
		}
	}
	return l
}

func size(p api.Point) int {
	return int(math.Abs(float64(p.X)) + math.Abs(float64(p.Y)))
}

// isBetter reports whether a shift with a cost comes before another one.
func isBetter(p api.Point, x *big.Rat, q api.Point, y *big.Rat) bool {
	switch {
	case x.Cmp(y) != 0:
		return x.Cmp(y) < 0
	case size(p) != size(q):
		return size(p) < size(q)
	case p.Y != q.Y:
		return p.Y < q.Y
	}
	return p.X < q.X
}

// bestOf returns the best one of some shifts, and the least cost of the others, or nil.
func bestOf(l map[api.Point]*big.Rat) (best api.Point, second *big.Rat) {
	for p := range l {
		best = p
	}
	for p, x := range l {
		if isBetter(p, x, best, l[best]) {
			best = p
		}
	}
	for p, x := range l {
		if p != best && (second == nil || x.Cmp(second) < 0) {
			second = x
		}
	}
	return best, second
}

func ratioOf(x *big.Rat) api.Ratio {
	return ratio(int(x.Num().Int64()), int(x.Denom().Int64()))
}

// movedBy returns by how much a motion has moved along one axis.
func movedBy(n, ticks, t int) int {
	x := new(big.Int).Mul(big.NewInt(2*int64(n)), big.NewInt(int64(t)))
	x.Add(x, big.NewInt(int64(ticks)))
	return int(x.Div(x, big.NewInt(2*int64(ticks))).Int64()) // Div rounds down for a divisor above 0
}

// isCovered reports whether some dark cell has moved to a cell.
func isCovered(m light.Map, limit float32, motion api.Point, ticks, t int, cell api.Point) bool {
	return slices.ContainsFunc(darkOf(m, limit), func(p api.Point) bool {
		return p.X+movedBy(motion.X, ticks, t) == cell.X && p.Y+movedBy(motion.Y, ticks, t) == cell.Y
	})
}

// covering returns how many motions of a drift cover a cell, and how many there are.
func covering(m light.Map, limit float32, d cloud.Drift, t int, cell api.Point) (covering, all int) {
	for x := d.X.Low; x <= d.X.High; x++ {
		for y := d.Y.Low; y <= d.Y.High; y++ {
			all++
			if isCovered(m, limit, at(x, y), d.Ticks, t, cell) {
				covering++
			}
		}
	}
	return covering, all
}

// shadowOf tries each height.
func shadowOf(height api.Interval, v api.Vector) [2]api.Interval {
	var out [2]api.Interval
	for i, part := range [2]int{v.X, v.Y} {
		low, high := math.Inf(1), math.Inf(-1)
		for h := height.Low; h <= height.High; h++ {
			offset := -float64(part*h) / float64(v.Z)
			low, high = min(low, math.Floor(offset)), max(high, math.Ceil(offset))
		}
		out[i] = to(int(low), int(high))
	}
	return out
}

// doCross asks where the lines of two segments meet: s and t are the places on both, times the determinant.
func doCross(a, b [2]api.Point) bool {
	u, v, w := at(a[1].X-a[0].X, a[1].Y-a[0].Y), at(b[1].X-b[0].X, b[1].Y-b[0].Y), at(b[0].X-a[0].X, b[0].Y-a[0].Y)
	cross := func(p, q api.Point) int { return p.X*q.Y - p.Y*q.X }
	if det := cross(u, v); det != 0 {
		s, t := cross(w, v), cross(w, u)
		if det < 0 {
			det, s, t = -det, -s, -t
		}
		return 0 <= s && s <= det && 0 <= t && t <= det
	}
	return isOn(a, b[0]) || isOn(a, b[1]) || isOn(b, a[0]) || isOn(b, a[1])
}

// isOn reports whether the distances of a point from both ends of a segment are together as long as the segment.
func isOn(s [2]api.Point, p api.Point) bool {
	u, v := at(s[0].X-p.X, s[0].Y-p.Y), at(s[1].X-p.X, s[1].Y-p.Y)
	return u.X*v.Y == u.Y*v.X && u.X*v.X+u.Y*v.Y <= 0
}
