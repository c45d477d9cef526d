package field_test

import (
	"math/big"
	"math/rand"
	"slices"
	"testing"

	"spillage/api"
	"spillage/expect"
	"spillage/field"
)

// P4.6, and P5 of the whole document

func TestAHullHoldsItsPoints(t *testing.T) {
	r := rand.New(rand.NewSource(65))
	for range 3000 {
		l := randomPoints(r, between(r, 3, 64), 5)
		hull, e := field.Hull(l)
		if e == api.ErrSingular {
			continue
		}
		expect.Err(t, "CheckPolygon of a hull", field.CheckPolygon(hull), api.OK)
		for _, x := range l {
			if n, e := field.Holds(hull, x); n < 0 || e != api.OK {
				t.Fatalf("the hull %v of %v does not hold %v", hull, l, x)
			}
		}
		for _, x := range hull {
			if !slices.Contains(l, x) {
				t.Fatalf("the hull %v has the corner %v, which is not among %v", hull, x, l)
			}
		}
		again, e := field.Hull(hull)
		expect.List(t, "Hull of a hull", again, e, hull, api.OK)
		r.Shuffle(len(l), func(i, k int) { l[i], l[k] = l[k], l[i] })
		again, e = field.Hull(l)
		expect.List(t, "Hull in another order", again, e, hull, api.OK)
	}
}

// spot is a point with fractions.
type spot [2]*big.Rat

// sideOf returns the same as area, for a spot.
func sideOf(p, q api.Point, x spot) *big.Rat {
	up := new(big.Rat).Sub(x[1], frac(p.Y, 1))
	right := new(big.Rat).Sub(x[0], frac(p.X, 1))
	return up.Sub(up.Mul(up, frac(q.X-p.X, 1)), right.Mul(right, frac(q.Y-p.Y, 1)))
}

// crossing returns the spot at which the sides of two spots, above and below 0, would be 0.
func crossing(a, b spot, sideA, sideB *big.Rat) spot {
	share := new(big.Rat).Quo(sideA, new(big.Rat).Sub(sideA, sideB))
	var out spot
	for i := range out {
		out[i] = new(big.Rat).Sub(b[i], a[i])
		out[i].Add(a[i], out[i].Mul(out[i], share))
	}
	return out
}

// common returns the spots of the part of a polygon that is to the left of all edges of another one, or on them.
func common(p, other []api.Point) []spot {
	var left []spot
	for _, x := range p {
		left = append(left, spot{frac(x.X, 1), frac(x.Y, 1)})
	}
	for n := range other {
		from, to := other[n], other[(n+1)%len(other)]
		var next []spot
		for i, x := range left {
			y := left[(i+1)%len(left)]
			sideX, sideY := sideOf(from, to, x), sideOf(from, to, y)
			if sideX.Sign() >= 0 {
				next = append(next, x)
			}
			if sideX.Sign()*sideY.Sign() < 0 {
				next = append(next, crossing(x, y, sideX, sideY))
			}
		}
		left = next
	}
	return left
}

// isInsideOfBoth reports whether the middle of the spots that two polygons have in common is strictly inside of both: otherwise no point is.
func isInsideOfBoth(p, other []api.Point) bool {
	spots := common(p, other)
	if len(spots) == 0 {
		return false
	}
	middle := spot{new(big.Rat), new(big.Rat)}
	for _, x := range spots {
		for i := range middle {
			middle[i].Add(middle[i], new(big.Rat).Quo(x[i], frac(len(spots), 1)))
		}
	}
	for _, polygon := range [][]api.Point{p, other} {
		for n := range polygon {
			if sideOf(polygon[n], polygon[(n+1)%len(polygon)], middle).Sign() <= 0 {
				return false
			}
		}
	}
	return true
}

func TestPolygonsApartHaveNothingInCommon(t *testing.T) {
	r := rand.New(rand.NewSource(66))
	counts := map[api.Errno]int{}
	for range 3000 {
		p, other := randomPolygon(r, 5), randomPolygon(r, 5)
		wanted := api.OK
		if isInsideOfBoth(p, other) {
			wanted = api.ErrOverlap
		}
		counts[wanted]++
		if edge, e := field.Apart(p, other); e != wanted {
			t.Fatalf("Apart %v %v: %v, error %d, want error %d", p, other, edge, e, wanted)
		}
	}
	if counts[api.OK] < 200 || counts[api.ErrOverlap] < 200 {
		t.Errorf("the counts are %v", counts)
	}
}

// TestAShadowIsAPolygon checks also its size: the mirror's area, times the sun's Z and the share of the sun that falls on it.
func TestAShadowIsAPolygon(t *testing.T) {
	r := rand.New(rand.NewSource(67))
	for i := range 3000 {
		m, sun := randomMirror(r, "x", 4096, []int{4, 64}[i%2]), randomVector(r, 1024)
		sun.Z = between(r, 1, 1024)
		p, e := field.Shadow(m, sun)
		if e == api.ErrSingular {
			continue
		}
		expect.Err(t, "Shadow", e, api.OK)
		expect.Err(t, "CheckPolygon of a shadow", field.CheckPolygon(p), api.OK)
		seen := dot(cross(m.U, m.V), sun)
		n, e := field.Area(p)
		expect.Result(t, "Area of a shadow", n, e, 8*sun.Z*max(seen, -seen), api.OK)
	}
}

// multiplied returns a polygon whose points are multiplied by a number.
func multiplied(p []api.Point, k int) []api.Point {
	var out []api.Point
	for _, x := range p {
		out = append(out, at(k*x.X, k*x.Y))
	}
	return out
}

func TestADarkFacetLiesInAShadow(t *testing.T) {
	r := rand.New(rand.NewSource(68))
	counts := map[bool]int{}
	for range 5000 {
		l, k := randomField(r, 2), between(r, 1, 8)
		sun := randomVector(r, 4)
		sun.Z = between(r, 1, 4)
		alone, e := field.Dark(l[:1], 0, sun, k)
		expect.Err(t, "Dark", e, api.OK)
		dark, e := field.Dark(l, 0, sun, k)
		expect.Err(t, "Dark", e, api.OK)
		shadow, e := field.Shadow(l[1], sun)
		for i, x := range centresOf(l[0], k) {
			if !dark[i] || alone[i] {
				continue
			}
			expect.Err(t, "Shadow of a mirror that makes a facet dark", e, api.OK)
			ground := at(x.X*sun.Z-x.Z*sun.X, x.Y*sun.Z-x.Z*sun.Y)
			n, f := field.Holds(multiplied(shadow, k), ground)
			if n < 0 || f != api.OK {
				t.Fatalf("%v, sun %v: the facet %v is dark, but not in the shadow %v", l, sun, x, shadow)
			}
			counts[n > 0]++
		}
	}
	if counts[true] < 1000 || counts[false] < 20 {
		t.Errorf("the counts are %v", counts)
	}
}

func TestFacetsAreDarkBlockedOrLeft(t *testing.T) {
	r := rand.New(rand.NewSource(69))
	for range 1000 {
		l, k := randomField(r, between(r, 1, 6)), between(r, 1, 8)
		sun, target := randomWay(r, 4), randomVector(r, 20)
		for i := range l {
			n, e := field.Lit(l, i, sun, target, k)
			expect.Err(t, "Lit", e, api.OK)
			dark, e := field.Dark(l, i, sun, k)
			expect.Err(t, "Dark", e, api.OK)
			blocked, e := field.Blocked(l, i, target, k)
			expect.Err(t, "Blocked", e, api.OK)
			lost := 0
			for j := range dark {
				if dark[j] || blocked[j] {
					lost++
				}
			}
			if n[0]+n[1]+n[2] != k*k || n[0]+n[1] != lost || len(dark) != k*k || len(blocked) != k*k {
				t.Fatalf("%v: %d times %d facets are %v", l[i], k, k, n)
			}
		}
	}
}

// TestAFurtherMirrorLeavesNoMore checks each facet, and that the order of the other mirrors does not matter.
func TestAFurtherMirrorLeavesNoMore(t *testing.T) {
	r := rand.New(rand.NewSource(70))
	taken := 0
	for range 2000 {
		l, k := randomField(r, between(r, 2, 6)), between(r, 1, 5)
		sun, target := randomWay(r, 4), randomVector(r, 20)
		first := l[0]
		fewer, e := field.Lit(l[:len(l)-1], 0, sun, target, k)
		expect.Err(t, "Lit", e, api.OK)
		all, e := field.Lit(l, 0, sun, target, k)
		expect.Err(t, "Lit", e, api.OK)
		if all[2] > fewer[2] || all[0] < fewer[0] {
			t.Fatalf("%v: %v, and without the last mirror %v", l, all, fewer)
		}
		taken += fewer[2] - all[2]
		dark, _ := field.Dark(l, 0, sun, k)
		blocked, _ := field.Blocked(l, 0, target, k)
		r.Shuffle(len(l), func(i, k int) { l[i], l[k] = l[k], l[i] })
		index := slices.Index(l, first)
		again, e := field.Dark(l, index, sun, k)
		expect.List(t, "Dark in another order", again, e, dark, api.OK)
		again, e = field.Blocked(l, index, target, k)
		expect.List(t, "Blocked in another order", again, e, blocked, api.OK)
		n, e := field.Lit(l, index, sun, target, k)
		expect.Result(t, "Lit in another order", n, e, all, api.OK)
	}
	if taken < 100 {
		t.Errorf("only %d facets were taken", taken)
	}
}

func TestSharesMultiplyInAnyOrder(t *testing.T) {
	r := rand.New(rand.NewSource(71))
	for range 2000 {
		var l []api.Ratio
		for range r.Intn(7) {
			l = append(l, randomShare(r, 1000))
		}
		x, e := field.Efficiency(l)
		expect.Err(t, "Efficiency", e, api.OK)
		r.Shuffle(len(l), func(i, k int) { l[i], l[k] = l[k], l[i] })
		again, e := field.Efficiency(l)
		expect.Result(t, "Efficiency in another order", again, e, x, api.OK)
	}
}

func TestMirrorsComeBack(t *testing.T) {
	r := rand.New(rand.NewSource(72))
	for range 500 {
		l := randomField(r, r.Intn(57))
		for i := range l {
			l[i] = randomMirror(r, l[i].Name, 4096, 64)
		}
		text, e := field.Print(l)
		expect.Err(t, "Print", e, api.OK)
		expect.Parsed(t, field.Parse, text, l, 0, api.OK)
	}
}
