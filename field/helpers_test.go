package field_test

import (
	"cmp"
	"math/big"
	"math/rand"
	"slices"
	"strconv"

	"spillage/api"
	"spillage/expect"
	"spillage/field"
)

func at(x, y int) api.Point { return api.Point{X: x, Y: y} }

func vec(x, y, z int) api.Vector { return api.Vector{X: x, Y: y, Z: z} }

func ratio(num, den int) api.Ratio { return api.Ratio{Num: num, Den: den} }

// points returns the points with pairs of coordinates.
func points(l ...int) []api.Point {
	var p []api.Point
	for pair := range slices.Chunk(l, 2) {
		p = append(p, at(pair[0], pair[1]))
	}
	return p
}

func minus(v api.Vector) api.Vector { return times(-1, v) }

func dot(a, b api.Vector) int { return a.X*b.X + a.Y*b.Y + a.Z*b.Z }

func cross(a, b api.Vector) api.Vector {
	return vec(a.Y*b.Z-a.Z*b.Y, a.Z*b.X-a.X*b.Z, a.X*b.Y-a.Y*b.X)
}

func times(n int, v api.Vector) api.Vector { return vec(n*v.X, n*v.Y, n*v.Z) }

func plus(l ...api.Vector) api.Vector {
	var out api.Vector
	for _, v := range l {
		out = vec(out.X+v.X, out.Y+v.Y, out.Z+v.Z)
	}
	return out
}

// area returns twice the area of the triangle of three points, above 0 if they go round counterclockwise.
func area(p, q, r api.Point) int { return (q.X-p.X)*(r.Y-p.Y) - (q.Y-p.Y)*(r.X-p.X) }

// square is the polygon of the chapter's example 1.
func square() []api.Point { return points(0, 0, 4, 0, 4, 4, 0, 4) }

// parabola returns a polygon of n corners.
func parabola(n int) []api.Point {
	var p []api.Point
	for i := range n {
		p = append(p, at(i-3, i*i))
	}
	return p
}

// a, b and c are the mirrors A, B and C of the chapter's examples.
func a() field.Mirror {
	return field.Mirror{Name: "a", Centre: vec(0, 0, 10), U: vec(4, 0, 0), V: vec(0, 4, 0)}
}

func b() field.Mirror {
	return field.Mirror{Name: "b", Centre: vec(0, 0, 20), U: vec(2, 0, 0), V: vec(0, 4, 0)}
}

func c() field.Mirror {
	return field.Mirror{Name: "c", Centre: vec(30, 0, 10), U: vec(4, 0, 0), V: vec(0, 4, 0)}
}

func mirrors(l ...field.Mirror) []field.Mirror { return l }

// row returns n mirrors that stand in a row.
func row(n int) []field.Mirror {
	var l []field.Mirror
	for i := range n {
		m := a()
		m.Name, m.Centre = "m"+strconv.Itoa(i), vec(10*i, 0, 10)
		l = append(l, m)
	}
	return l
}

// named returns a mirror with another name.
func named(name string, m field.Mirror) field.Mirror {
	m.Name = name
	return m
}

type wrong[T any] struct {
	x T
	e api.Errno
}

// wrongPoints are points that are beyond the plane.
func wrongPoints() []api.Point {
	var l []api.Point
	for _, n := range expect.Outside(-16777216, 16777216) {
		l = append(l, at(n, 0), at(0, n), at(n, n))
	}
	return l
}

func wrongPolygons() []wrong[[]api.Point] {
	l := []wrong[[]api.Point]{
		{nil, api.ErrShort}, {[]api.Point{}, api.ErrShort}, {square()[:1], api.ErrShort}, {square()[:2], api.ErrShort}, {points(1<<40, 0), api.ErrShort}, {points(0, 1<<40, 1, 1), api.ErrShort},
		{parabola(17), api.ErrMany}, {make([]api.Point, 17), api.ErrMany}, {slices.Repeat(points(1<<40, 0), 17), api.ErrMany}, {make([]api.Point, 100000), api.ErrMany},
		{points(0, 0, 0, 4, 4, 4, 4, 0), api.ErrShape}, {points(0, 0, 1, 4, 4, 0), api.ErrShape}, {points(0, 0, 4, 4, 4, 0, 0, 4), api.ErrShape}, {points(0, 0, 4, 0, 1, 1, 0, 4), api.ErrShape},
		{points(0, 0, 2, 0, 4, 0), api.ErrShape}, {points(0, 0, 2, 0, 4, 0, 0, 4), api.ErrShape}, {points(0, 0, 4, 0, 4, 4, 2, 4, 0, 4), api.ErrShape}, {points(2, 0, 4, 0, 0, 4, 0, 0), api.ErrShape},
		{points(0, 0, 0, 0, 0, 0), api.ErrShape}, {points(0, 0, 0, 0, 4, 0), api.ErrShape}, {points(0, 0, 4, 0, 0, 4, 0, 0), api.ErrShape}, {points(0, 0, 4, 0, 4, 0, 0, 4), api.ErrShape}, {points(0, 0, 4, 0, 0, 0, 0, 4), api.ErrShape}, {slices.Concat(square(), square()), api.ErrShape}, {slices.Repeat(points(0, 0, 4, 0, 0, 4), 2), api.ErrShape},
		{points(10, 0, -8, 6, 3, -10, 3, 10, -8, -6), api.ErrShape}, {points(-16777216, -16777216, 16777216, 16777216, 0, 0), api.ErrShape}, {slices.Repeat(points(5, 5), 16), api.ErrShape},
	}
	for _, x := range wrongPoints() {
		l = append(l, wrong[[]api.Point]{[]api.Point{x, at(0, 0), at(0, 1)}, api.ErrRange}, wrong[[]api.Point]{[]api.Point{at(0, 0), at(0, 1), at(2, 2), x}, api.ErrRange}, wrong[[]api.Point]{[]api.Point{at(0, 0), x, at(0, 0)}, api.ErrRange})
	}
	return l
}

// wrongVectors are vectors with a part above a limit, at each place.
func wrongVectors(limit int) []wrong[api.Vector] {
	var l []wrong[api.Vector]
	for _, n := range expect.Outside(-limit, limit) {
		for _, v := range []api.Vector{vec(n, 0, 0), vec(0, n, 0), vec(0, 0, n), vec(n, n, n), vec(1, n, 1)} {
			l = append(l, wrong[api.Vector]{v, api.ErrRange})
		}
	}
	return l
}

// wrongWays are vectors with a part above a limit, and the one that is 0.
func wrongWays(limit int) []wrong[api.Vector] {
	return append(wrongVectors(limit), wrong[api.Vector]{vec(0, 0, 0), api.ErrZero})
}

func wrongMirrors() []wrong[field.Mirror] {
	var l []wrong[field.Mirror]
	for _, name := range []string{"", "9", "_a", "a b", "a-b", "a\n", "\xff", "\u00e4", "abcdefghijklmnopqrstuvwxy"} {
		l = append(l, wrong[field.Mirror]{named(name, a()), api.ErrName}, wrong[field.Mirror]{field.Mirror{Name: name, Centre: vec(4097, 0, 0)}, api.ErrName}, wrong[field.Mirror]{field.Mirror{Name: name}, api.ErrName})
	}
	for _, x := range wrongVectors(4096) {
		l = append(l, wrong[field.Mirror]{field.Mirror{Name: "a", Centre: x.x, U: vec(4, 0, 0), V: vec(0, 4, 0)}, x.e}, wrong[field.Mirror]{field.Mirror{Name: "a", Centre: x.x}, x.e})
	}
	for _, x := range wrongVectors(64) {
		l = append(l, wrong[field.Mirror]{field.Mirror{Name: "a", U: x.x, V: vec(1, 2, 3)}, x.e}, wrong[field.Mirror]{field.Mirror{Name: "a", U: vec(1, 2, 3), V: x.x}, x.e}, wrong[field.Mirror]{field.Mirror{Name: "a", U: x.x}, x.e}, wrong[field.Mirror]{field.Mirror{Name: "a", V: x.x}, x.e}, wrong[field.Mirror]{field.Mirror{Name: "a", U: x.x, V: x.x}, x.e})
	}
	for _, x := range [][2]api.Vector{{}, {vec(1, 2, 3), vec(0, 0, 0)}, {vec(0, 0, 0), vec(1, 2, 3)}, {vec(1, 2, 3), vec(1, 2, 3)}, {vec(4, 2, 0), vec(-2, -1, 0)}, {vec(64, -64, 32), vec(-32, 32, -16)}, {vec(0, 0, 64), vec(0, 0, -1)}} {
		l = append(l, wrong[field.Mirror]{field.Mirror{Name: "a", U: x[0], V: x[1]}, api.ErrSingular})
	}
	return l
}

func wrongFields() []wrong[[]field.Mirror] {
	flat := field.Mirror{Name: "a"}
	l := []wrong[[]field.Mirror]{
		{row(65), api.ErrMany}, {make([]field.Mirror, 65), api.ErrMany}, {make([]field.Mirror, 100000), api.ErrMany}, {slices.Repeat(mirrors(a()), 65), api.ErrMany},
		{mirrors(a(), a()), api.ErrTwice}, {mirrors(a(), b(), c(), named("a", b())), api.ErrTwice}, {mirrors(a(), b(), named("b", c()), field.Mirror{}), api.ErrTwice}, {append(row(63), named("m0", a())), api.ErrTwice},
		{mirrors(a(), flat), api.ErrSingular}, {mirrors(a(), named("", b()), a()), api.ErrName}, {mirrors(flat, a()), api.ErrSingular},
	}
	for _, x := range wrongMirrors() {
		l = append(l, wrong[[]field.Mirror]{mirrors(x.x), x.e}, wrong[[]field.Mirror]{mirrors(c(), b(), x.x, c(), flat), x.e})
	}
	return l
}

// hullOf returns the corners from which an edge leads, one after the other: an edge has all points to its left, or on it.
func hullOf(l []api.Point) []api.Point {
	start := slices.MinFunc(l, func(a, b api.Point) int { return cmp.Or(a.X-b.X, a.Y-b.Y) })
	hull := []api.Point{start}
	for {
		next := nextCorner(l, hull[len(hull)-1])
		if next == start {
			return hull
		}
		hull = append(hull, next)
	}
}

// nextCorner returns the corner to which the edge from a corner leads, or the corner itself if there is none: no point is to the right, or further ahead.
func nextCorner(l []api.Point, from api.Point) api.Point {
	next := from
	for _, x := range l {
		side := area(from, next, x)
		isFurther := max(x.X-from.X, from.X-x.X)+max(x.Y-from.Y, from.Y-x.Y) > max(next.X-from.X, from.X-next.X)+max(next.Y-from.Y, from.Y-next.Y)
		if side < 0 || side == 0 && isFurther {
			next = x
		}
	}
	return next
}

// The functions below are the chapter's definitions, in fractions where those of the package take determinants.

// frac returns a / b, for b other than 0.
func frac(a, b int) *big.Rat { return big.NewRat(int64(a), int64(b)) }

// product returns the scalar product of fractions with a vector.
func product(w [3]*big.Rat, v api.Vector) *big.Rat {
	out := new(big.Rat)
	for i, n := range []int{v.X, v.Y, v.Z} {
		out.Add(out, new(big.Rat).Mul(w[i], frac(n, 1)))
	}
	return out
}

// difference returns the absolute value of a x less b y.
func difference(a *big.Rat, x int, b *big.Rat, y int) *big.Rat {
	p, q := new(big.Rat).Mul(a, frac(x, 1)), new(big.Rat).Mul(b, frac(y, 1))
	return p.Abs(p.Sub(p, q))
}

// isMet reports whether a ray meets a mirror: the place of the ray in the mirror's plane is a U + b V from its centre, times k, where a and b follow from the place's scalar products with U and V.
func isMet(m field.Mirror, k int, from, along api.Vector, ends bool) bool {
	normal := cross(m.U, m.V)
	if dot(normal, along) == 0 {
		return false
	}
	t := frac(dot(normal, plus(times(k, m.Centre), minus(from))), dot(normal, along))
	if t.Sign() <= 0 || ends && t.Cmp(frac(1, 1)) >= 0 {
		return false
	}
	away := plus(from, times(-k, m.Centre))
	var w [3]*big.Rat
	for i, l := range [][2]int{{away.X, along.X}, {away.Y, along.Y}, {away.Z, along.Z}} {
		w[i] = new(big.Rat).Add(frac(l[0], 1), new(big.Rat).Mul(t, frac(l[1], 1)))
	}
	uu, uv, vv := dot(m.U, m.U), dot(m.U, m.V), dot(m.V, m.V)
	wu, wv := product(w, m.U), product(w, m.V)
	most := frac(k*(uu*vv-uv*uv), 1)
	return difference(wu, vv, wv, uv).Cmp(most) <= 0 && difference(wv, uu, wu, uv).Cmp(most) <= 0
}

// centresOf returns the centres of the facets of a mirror, times k.
func centresOf(m field.Mirror, k int) []api.Vector {
	var l []api.Vector
	for index := range k * k {
		i, j := index%k, index/k
		l = append(l, plus(times(k, m.Centre), times(2*i+1-k, m.U), times(2*j+1-k, m.V)))
	}
	return l
}

// meetsAnother reports whether a ray meets another mirror than one of a field.
func meetsAnother(l []field.Mirror, mirror, k int, from, along api.Vector, ends bool) bool {
	for i, m := range l {
		if i != mirror && isMet(m, k, from, along, ends) {
			return true
		}
	}
	return false
}

// darkOf reports for each facet of a mirror whether it is dark.
func darkOf(l []field.Mirror, mirror int, sun api.Vector, k int) []bool {
	var out []bool
	for _, x := range centresOf(l[mirror], k) {
		isBehind := dot(cross(l[mirror].U, l[mirror].V), sun) <= 0
		out = append(out, isBehind || meetsAnother(l, mirror, k, x, sun, false))
	}
	return out
}

// blockedOf reports for each facet of a mirror whether it is blocked.
func blockedOf(l []field.Mirror, mirror int, target api.Vector, k int) []bool {
	var out []bool
	for _, x := range centresOf(l[mirror], k) {
		along := plus(times(k, target), minus(x))
		isBehind := dot(cross(l[mirror].U, l[mirror].V), along) <= 0
		out = append(out, isBehind || meetsAnother(l, mirror, k, x, along, true))
	}
	return out
}

// litOf returns how many facets are dark, blocked alone, and left.
func litOf(l []field.Mirror, mirror int, sun, target api.Vector, k int) [3]int {
	var counts [3]int
	isBlocked := blockedOf(l, mirror, target, k)
	for i, isDark := range darkOf(l, mirror, sun, k) {
		switch {
		case isDark:
			counts[0]++
		case isBlocked[i]:
			counts[1]++
		default:
			counts[2]++
		}
	}
	return counts
}

// between returns a number from low to high.
func between(r *rand.Rand, low, high int) int { return low + r.Intn(high-low+1) }

// randomVector returns a vector with parts from -reach to reach.
func randomVector(r *rand.Rand, reach int) api.Vector {
	return vec(between(r, -reach, reach), between(r, -reach, reach), between(r, -reach, reach))
}

// randomWay returns a vector that is not 0.
func randomWay(r *rand.Rand, reach int) api.Vector {
	for {
		if v := randomVector(r, reach); v != (api.Vector{}) {
			return v
		}
	}
}

// randomMirror returns a mirror within a reach, with halves of at most a size.
func randomMirror(r *rand.Rand, name string, reach, size int) field.Mirror {
	for {
		m := field.Mirror{Name: name, Centre: randomVector(r, reach), U: randomVector(r, size), V: randomVector(r, size)}
		if cross(m.U, m.V) != (api.Vector{}) {
			return m
		}
	}
}

// randomField returns a field of n mirrors that are near to one another.
func randomField(r *rand.Rand, n int) []field.Mirror {
	var l []field.Mirror
	for i := range n {
		l = append(l, randomMirror(r, "m"+strconv.Itoa(i), 9, 5))
	}
	return l
}

// randomPoints returns n points, of which several may be the same.
func randomPoints(r *rand.Rand, n, reach int) []api.Point {
	var l []api.Point
	for range n {
		l = append(l, at(between(r, -reach, reach), between(r, -reach, reach)))
	}
	return l
}

// randomPolygon returns a polygon, the hull of a few points.
func randomPolygon(r *rand.Rand, reach int) []api.Point {
	for {
		if p := hullOf(randomPoints(r, between(r, 3, 7), reach)); len(p) >= 3 {
			return p
		}
	}
}
