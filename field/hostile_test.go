package field_test

import (
	"math"
	"slices"
	"strings"
	"testing"

	"spillage/api"
	"spillage/expect"
	"spillage/field"
)

// P1: no function panics, for whatever arguments; each result depends on them alone.

func hostileNumbers() []int {
	return []int{math.MinInt, math.MinInt + 1, -1 << 32, -131073, -131072, -16777217, -4096, -65, -1, 0, 1, 8, 9, 64, 65, 1024, 16777216, 1 << 32, 1<<32 + 1, math.MaxInt - 1, math.MaxInt}
}

func hostileVectors() []api.Vector {
	var l []api.Vector
	for _, n := range hostileNumbers() {
		l = append(l, vec(n, 0, 0), vec(0, n, 1), vec(1, 0, n), vec(n, n, n), vec(n, -n, math.MaxInt))
	}
	return l
}

func hostileMirrors() []field.Mirror {
	l := mirrors(field.Mirror{}, a(), steep(), named(strings.Repeat("x", 1000000), a()))
	for _, v := range hostileVectors() {
		l = append(l, field.Mirror{Name: "x", Centre: v, U: vec(4, 0, 0), V: vec(0, 4, 0)}, field.Mirror{Name: "x", U: v, V: vec(1, 2, 3)}, field.Mirror{Name: "x", U: vec(1, 2, 3), V: v}, field.Mirror{Name: "x", Centre: v, U: v, V: v})
	}
	return l
}

func hostilePolygons() [][]api.Point {
	l := [][]api.Point{nil, square(), make([]api.Point, 3), make([]api.Point, 16), make([]api.Point, 1000)}
	for _, a := range hostileNumbers() {
		for _, b := range hostileNumbers() {
			l = append(l, points(a, b), points(a, b, b, a, a, a), points(0, 0, a, 0, b, a), points(a, a, b, a, b, b, a, b))
		}
	}
	return l
}

func TestNoPanicOfPolygons(t *testing.T) {
	l := hostilePolygons()
	for i, p := range l {
		field.CheckPolygon(p)
		field.Area(p)
		field.Hull(p)
		field.Apart(p, square())
		field.Apart(square(), p)
		field.Apart(p, l[(7*i+3)%len(l)])
		for _, n := range hostileNumbers() {
			field.Holds(p, at(n, 0))
			field.Holds(p, at(-1, n))
		}
	}
}

func TestNoPanicOfMirrors(t *testing.T) {
	for _, m := range hostileMirrors() {
		field.CheckMirror(m)
		field.Corners(m)
		field.Normal(m)
		field.Print(mirrors(a(), m))
		for _, v := range hostileVectors() {
			field.Cosine(m, v)
			field.Shadow(m, v)
			field.Meets(m, 1, v, vec(0, 0, 1), false)
			field.Meets(m, 8, vec(0, 0, 1), v, true)
			field.Meets(m, 3, v, v, true)
		}
		for _, n := range hostileNumbers() {
			field.Facets(m, n)
			field.Meets(m, n, vec(0, 0, 0), vec(0, 0, 1), false)
		}
	}
}

func TestNoPanicOfFields(t *testing.T) {
	up, target := vec(0, 0, 1), vec(0, 0, 60)
	for _, l := range [][]field.Mirror{nil, mirrors(a()), mirrors(a(), b(), c()), mirrors(steep(), a()), row(64), make([]field.Mirror, 64), make([]field.Mirror, 1000)} {
		field.CheckMirrors(l)
		field.Print(l)
		for _, n := range hostileNumbers() {
			field.Dark(l, n, up, 2)
			field.Dark(l, 0, up, n)
			field.Blocked(l, n, target, 2)
			field.Blocked(l, 0, target, n)
			field.Lit(l, n, up, target, 2)
			field.Lit(l, 0, up, target, n)
			field.Neighbours(l, n, 1)
			field.Neighbours(l, 0, n)
			field.Ranked(l[:min(len(l), 3)], up, target, n)
		}
		for _, v := range hostileVectors() {
			field.Dark(l, 0, v, 2)
			field.Blocked(l, 0, v, 2)
			field.Lit(l, 0, v, v, 1)
			field.Ranked(l[:min(len(l), 3)], v, target, 1)
			field.Ranked(l[:min(len(l), 3)], up, v, 1)
		}
	}
}

func TestNoPanicOfLosses(t *testing.T) {
	field.Efficiency(make([]api.Ratio, 1000))
	field.Summed(make([]field.Reading, 1000))
	for _, a := range hostileNumbers() {
		for _, b := range hostileNumbers() {
			field.Efficiency([]api.Ratio{ratio(1, 2), ratio(a, b)})
			for _, c := range hostileNumbers() {
				field.Summed([]field.Reading{reading(1, 1, 1), reading(a, b, c)})
			}
		}
	}
}

func TestNoPanicOfTexts(t *testing.T) {
	for _, s := range []string{
		"", "\n", " ", "mirror", "mirror\n", "mirror \n", "mirror a\n", "mirror a 0 0 0 0 0 0 0 0 0", "\xff\xfe", "mirror \xff\n", "mirror a" + strings.Repeat(" 999999999", 9) + "\n", "mirror a" + strings.Repeat(" -999999999", 9) + "\n",
		strings.Repeat("\n", 4096), strings.Repeat(" ", 4096), strings.Repeat("mirror\n", 585), strings.Repeat("mirror a 0 0 0 0 0 0 0 0 0\n", 150), strings.Repeat("x", 1000000), "mirror a" + strings.Repeat(" 1", 2000) + "\n",
	} {
		field.Parse(s)
	}
}

// TestArgumentsStay checks that no call changes its arguments, or shares memory with a result.
func TestArgumentsStay(t *testing.T) {
	l, up, target := mirrors(a(), b(), c()), vec(0, 0, 1), vec(100, 0, 60)
	for range 3 {
		dark, e := field.Dark(l, 0, up, 4)
		expect.List(t, "Dark", dark, e, rows(4, false, true, true, false), api.OK)
		dark[0] = true
		blocked, e := field.Blocked(l, 1, target, 1)
		expect.List(t, "Blocked", blocked, e, rows(1, false), api.OK)
		blocked[0] = true
		ranks, e := field.Ranked(l, up, target, 4)
		expect.List(t, "Ranked", ranks, e, []int{1, 2, 0}, api.OK)
		ranks[0] = 9
		near, e := field.Neighbours(l, 0, 1)
		expect.List(t, "Neighbours", near, e, []int{1}, api.OK)
		near[0] = 9
		shadow, e := field.Shadow(l[0], up)
		expect.List(t, "Shadow", shadow, e, points(-4, -4, 4, -4, 4, 4, -4, 4), api.OK)
		shadow[0] = at(9, 9)
		centres, e := field.Facets(l[0], 1)
		expect.List(t, "Facets", centres, e, []api.Vector{vec(0, 0, 10)}, api.OK)
		centres[0] = vec(9, 9, 9)
		corners, _ := field.Corners(l[0])
		corners[0] = vec(9, 9, 9)
		shares := []api.Ratio{ratio(1, 2), ratio(2, 3)}
		x, e := field.Efficiency(shares)
		expect.Result(t, "Efficiency", x, e, ratio(1, 3), api.OK)
		expect.List(t, "the shares", shares, api.OK, []api.Ratio{ratio(1, 2), ratio(2, 3)}, api.OK)
	}
	if !slices.Equal(l, mirrors(a(), b(), c())) {
		t.Errorf("the mirrors have changed: %v", l)
	}
}
