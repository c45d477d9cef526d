package field_test

import (
	"math/rand"
	"slices"
	"testing"

	"spillage/api"
	"spillage/expect"
	"spillage/field"
)

// P4.1

// rightPolygons are polygons of all sizes, up to the limits.
func rightPolygons() [][]api.Point {
	const most = 16777216
	l := [][]api.Point{
		square(), points(4, 4, 0, 4, 0, 0, 4, 0), points(0, 0, 1, 0, 0, 1), points(1, 1, 4, 2, 2, 5), points(-1, -1, 0, -1, 1, 0, 1, 1, 0, 1, -1, 0),
		points(-most, -most, most, -most, most, most, -most, most), points(-most, -most, most, most-1, most, most), points(0, 0, most, 0, 0, 1), points(-most, 0, 0, -1, most, 0),
	}
	for n := 3; n <= 16; n++ {
		l = append(l, parabola(n))
	}
	return l
}

func TestCheckPolygon(t *testing.T) {
	for _, p := range rightPolygons() {
		for i := range p {
			turned := slices.Concat(p[i:], p[:i])
			if e := field.CheckPolygon(turned); e != api.OK {
				t.Errorf("CheckPolygon %v: error %d", turned, e)
			}
		}
		back := slices.Clone(p)
		slices.Reverse(back)
		if e := field.CheckPolygon(back); e != api.ErrShape {
			t.Errorf("CheckPolygon %v: error %d, want %d", back, e, api.ErrShape)
		}
	}
	for _, x := range wrongPolygons() {
		if e := field.CheckPolygon(x.x); e != x.e {
			t.Errorf("CheckPolygon %.200v: error %d, want %d", x.x, e, x.e)
		}
	}
}

// isPolygon reports whether each three corners, in the order of the polygon, go round counterclockwise.
func isPolygon(p []api.Point) bool {
	for i := range p {
		for j := i + 1; j < len(p); j++ {
			for k := j + 1; k < len(p); k++ {
				if area(p[i], p[j], p[k]) <= 0 {
					return false
				}
			}
		}
	}
	return true
}

func TestCheckPolygonOfRandomPoints(t *testing.T) {
	r := rand.New(rand.NewSource(51))
	found := 0
	for range 20000 {
		p := randomPoints(r, between(r, 3, 5), 2)
		wanted := api.ErrShape
		if isPolygon(p) {
			wanted = api.OK
			found++
		}
		if e := field.CheckPolygon(p); e != wanted {
			t.Fatalf("CheckPolygon %v: error %d, want %d", p, e, wanted)
		}
	}
	if found < 2000 {
		t.Fatalf("only %d polygons", found)
	}
}

func TestArea(t *testing.T) {
	for _, x := range []struct {
		p []api.Point
		n int
	}{{square(), 32}, {points(1, 1, 4, 2, 2, 5), 11}, {points(0, 0, 1, 0, 0, 1), 1}, {points(-16777216, -16777216, 16777216, -16777216, 16777216, 16777216, -16777216, 16777216), 1 << 51}, {parabola(3), 2}, {points(-9, -9, -5, -9, -5, -5, -9, -5), 32}} {
		n, e := field.Area(x.p)
		expect.Result(t, "Area", n, e, x.n, api.OK)
	}
	for _, p := range rightPolygons() {
		wanted := 0
		for i := 2; i < len(p); i++ {
			wanted += area(p[0], p[i-1], p[i])
		}
		n, e := field.Area(p)
		expect.Result(t, "Area", n, e, wanted, api.OK)
	}
	for _, x := range wrongPolygons() {
		n, e := field.Area(x.x)
		expect.Result(t, "Area of no polygon", n, e, 0, x.e)
	}
}

func TestHolds(t *testing.T) {
	for _, x := range []struct {
		x api.Point
		n int
	}{
		{at(2, 2), 1}, {at(1, 3), 1}, {at(4, 2), 0}, {at(2, 0), 0}, {at(0, 2), 0}, {at(2, 4), 0}, {at(0, 0), 0}, {at(4, 4), 0}, {at(4, 0), 0}, {at(0, 4), 0}, {at(5, 2), -1}, {at(5, 0), -1}, {at(-1, 4), -1}, {at(2, -1), -1}, {at(8, 8), -1}, {at(-4, 0), -1},
		{at(16777216, -16777216), -1}, {at(-16777216, 0), -1}, {at(0, 16777216), -1},
	} {
		n, e := field.Holds(square(), x.x)
		expect.Result(t, "Holds", n, e, x.n, api.OK)
	}
	for _, x := range wrongPolygons() {
		n, e := field.Holds(x.x, at(2, 2))
		expect.Result(t, "Holds of no polygon", n, e, 0, x.e)
		_, e = field.Holds(x.x, at(1<<40, 0))
		expect.Err(t, "Holds of two errors", e, x.e)
	}
	for _, x := range wrongPoints() {
		n, e := field.Holds(square(), x)
		expect.Result(t, "Holds of a wrong point", n, e, 0, api.ErrRange)
	}
}

// holds tells where a point is: if it is not outside, the triangles from it to all edges fill the polygon, and on an edge one of them is flat.
func holds(p []api.Point, x api.Point) int {
	sum, size, flat := 0, 0, false
	for i := range p {
		n := area(x, p[i], p[(i+1)%len(p)])
		sum += max(n, -n)
		size += n
		flat = flat || n == 0
	}
	switch {
	case sum != size:
		return -1
	case flat:
		return 0
	}
	return 1
}

func TestHoldsOfRandomPoints(t *testing.T) {
	r := rand.New(rand.NewSource(52))
	counts := map[int]int{}
	for range 20000 {
		p, x := randomPolygon(r, 5), at(between(r, -5, 5), between(r, -5, 5))
		wanted := holds(p, x)
		counts[wanted]++
		if n, e := field.Holds(p, x); n != wanted || e != api.OK {
			t.Fatalf("Holds %v %v: %d, error %d, want %d", p, x, n, e, wanted)
		}
	}
	for n := -1; n <= 1; n++ {
		if counts[n] < 1000 {
			t.Errorf("only %d points with %d", counts[n], n)
		}
	}
}

func TestApart(t *testing.T) {
	for _, x := range []struct {
		a, b []api.Point
		edge [2]int
	}{
		{square(), points(4, 0, 8, 0, 8, 4, 4, 4), [2]int{0, 1}}, {points(4, 0, 8, 0, 8, 4, 4, 4), square(), [2]int{0, 3}}, {square(), points(3, 6, 6, 3, 6, 6), [2]int{1, 0}}, {points(3, 6, 6, 3, 6, 6), square(), [2]int{0, 0}},
		{square(), points(5, -9, 9, -9, 9, 9, 5, 9), [2]int{0, 1}}, {square(), points(0, -1, 4, -1, 2, 0), [2]int{0, 0}}, {square(), points(2, 4, 4, 8, 0, 8), [2]int{0, 2}}, {square(), points(4, 4, 5, 4, 5, 5), [2]int{0, 1}}, {square(), points(-1, -1, 0, -1, 0, 0), [2]int{0, 0}},
		{square(), points(-3, 1, 0, 2, -3, 3), [2]int{0, 3}}, {points(0, 0, 4, 4, 0, 4), points(0, 0, 4, 0, 4, 4), [2]int{0, 0}}, {square(), points(9, 1, 1, 9, 0, 9, 9, 0), [2]int{1, 2}}, {square(), points(2, 9, 9, 2, 9, 9), [2]int{1, 0}},
	} {
		edge, e := field.Apart(x.a, x.b)
		expect.Result(t, "Apart", edge, e, x.edge, api.OK)
	}
	for _, p := range [][]api.Point{square(), points(3, 3, 8, 3, 8, 8), points(1, 1, 2, 1, 1, 2), points(-1, -1, 5, -1, 5, 5, -1, 5), points(2, -9, 3, -9, 3, 9, 2, 9), points(3, 4, 4, 3, 5, 5), points(3, 9, 4, -4, 9, 9)} {
		for _, pair := range [][2][]api.Point{{square(), p}, {p, square()}} {
			edge, e := field.Apart(pair[0], pair[1])
			expect.Result(t, "Apart of polygons that overlap", edge, e, [2]int{}, api.ErrOverlap)
		}
	}
	for _, x := range wrongPolygons() {
		edge, e := field.Apart(x.x, square())
		expect.Result(t, "Apart of no polygon", edge, e, [2]int{}, x.e)
		edge, e = field.Apart(square(), x.x)
		expect.Result(t, "Apart from no polygon", edge, e, [2]int{}, x.e)
		for _, y := range wrongPolygons() {
			_, e = field.Apart(x.x, y.x)
			expect.Err(t, "Apart of two errors", e, x.e)
		}
	}
}

// parts reports whether an edge of a polygon parts it from another one.
func parts(p, other []api.Point, n int) bool {
	for _, x := range other {
		if area(p[n], p[(n+1)%len(p)], x) > 0 {
			return false
		}
	}
	return true
}

func TestApartIsTheFirstEdge(t *testing.T) {
	r := rand.New(rand.NewSource(53))
	counts := map[int]int{}
	for range 20000 {
		pair := [2][]api.Point{randomPolygon(r, 5), randomPolygon(r, 5)}
		edge, wanted := [2]int{}, api.ErrOverlap
		for which := 1; which >= 0; which-- {
			for n := len(pair[which]) - 1; n >= 0; n-- {
				if parts(pair[which], pair[1-which], n) {
					edge, wanted = [2]int{which, n}, api.OK
				}
			}
		}
		counts[edge[0]+int(wanted)]++
		if got, e := field.Apart(pair[0], pair[1]); got != edge || e != wanted {
			t.Fatalf("Apart %v: %v, error %d, want %v, error %d", pair, got, e, edge, wanted)
		}
	}
	for n, count := range counts {
		if count < 200 {
			t.Errorf("only %d of %d", count, n)
		}
	}
}

func TestHull(t *testing.T) {
	const most = 16777216
	for _, x := range []struct{ l, hull []api.Point }{
		{points(0, 0, 4, 0, 2, 1, 4, 4, 0, 4, 2, 2), square()}, {points(2, 1, 4, 4, 0, 4, 2, 2, 0, 0, 4, 0, 2, 0, 4, 4), square()}, {square(), square()}, {points(4, 4, 4, 0, 0, 0, 0, 4), square()},
		{points(0, 4, 0, 0, 3, 2), points(0, 0, 3, 2, 0, 4)}, {points(5, 5, 1, 1, 5, 5, 1, 1, 3, 9, 1, 1), points(1, 1, 5, 5, 3, 9)}, {points(0, 0, 1, 1, 2, 2, 3, 3, 3, 2), points(0, 0, 3, 2, 3, 3)}, {points(0, 0, 0, 1, 0, 2, 0, 3, 1, 1, 2, 2), points(0, 0, 2, 2, 0, 3)},
		{points(-most, most, most, -most, most, most, -most, -most, 0, 0), points(-most, -most, most, -most, most, most, -most, most)}, {points(-most, -most, most, most, most, most-1), points(-most, -most, most, most-1, most, most)},
		{slices.Repeat(points(0, 0, 1, 0, 0, 1, 0, 0), 16), points(0, 0, 1, 0, 0, 1)}, {parabola(16), parabola(16)}, {slices.Repeat(parabola(16), 4), parabola(16)}, {points(1, 0, 0, 0, -1, 0, 0, -7), points(-1, 0, 0, -7, 1, 0)},
	} {
		hull, e := field.Hull(x.l)
		expect.List(t, "Hull", hull, e, x.hull, api.OK)
	}
	for _, x := range []wrong[[]api.Point]{
		{nil, api.ErrEmpty}, {[]api.Point{}, api.ErrEmpty}, {make([]api.Point, 65), api.ErrMany}, {slices.Repeat(points(1<<40, 0), 65), api.ErrMany}, {slices.Repeat(square(), 17), api.ErrMany}, {make([]api.Point, 100000), api.ErrMany},
		{points(7, 7), api.ErrSingular}, {points(7, 7, 7, 7, 7, 7), api.ErrSingular}, {points(0, 0, 5, 3), api.ErrSingular}, {points(0, 0, 1, 1, 3, 3), api.ErrSingular}, {points(3, 3, 0, 0, 1, 1, 0, 0), api.ErrSingular}, {points(5, 0, 5, 9, 5, 4), api.ErrSingular}, {points(0, 5, 9, 5, 4, 5), api.ErrSingular}, {points(0, 9, 3, 3, 4, 1, 2, 5), api.ErrSingular}, {make([]api.Point, 64), api.ErrSingular}, {points(-most, -most, most, most, 0, 0), api.ErrSingular},
		{parabola(17), api.ErrMany}, {parabola(64), api.ErrMany}, {append(parabola(17), at(-3, 0)), api.ErrMany},
	} {
		hull, e := field.Hull(x.x)
		expect.List(t, "Hull of wrong points", hull, e, nil, x.e)
	}
	for _, x := range wrongPoints() {
		for _, l := range [][]api.Point{{x}, append(square(), x), append([]api.Point{x}, square()...), append(parabola(17), x)} {
			hull, e := field.Hull(l)
			expect.List(t, "Hull of a wrong point", hull, e, nil, api.ErrRange)
		}
	}
}

func TestHullOfRandomPoints(t *testing.T) {
	r := rand.New(rand.NewSource(54))
	for i := range 20000 {
		l := randomPoints(r, between(r, 1, 12), []int{1, 2, 5, 16777216}[i%4])
		wanted, e := hullOf(l), api.OK
		if len(wanted) < 3 {
			wanted, e = nil, api.ErrSingular
		}
		if hull, f := field.Hull(l); !slices.Equal(hull, wanted) || f != e {
			t.Fatalf("Hull %v: %v, error %d, want %v, error %d", l, hull, f, wanted, e)
		}
	}
}

// TestHullSharesNoMemory checks that neither the points nor a further result change.
func TestHullSharesNoMemory(t *testing.T) {
	l := points(4, 4, 0, 4, 0, 0, 2, 2, 4, 0)
	before := slices.Clone(l)
	hull, _ := field.Hull(l)
	hull[0] = at(9, 9)
	_ = append(hull[:2], at(9, 9))
	again, e := field.Hull(l)
	expect.List(t, "Hull", again, e, square(), api.OK)
	if !slices.Equal(l, before) {
		t.Errorf("the points have changed: %v", l)
	}
}
