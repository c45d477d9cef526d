package field_test

import (
	"math/rand"
	"slices"
	"testing"

	"spillage/api"
	"spillage/expect"
	"spillage/field"
)

// P4.3

func TestMeets(t *testing.T) {
	for _, x := range []struct {
		k           int
		from, along api.Vector
		ends, is    bool
	}{
		{1, vec(2, 0, 10), vec(0, 0, 1), false, true}, {1, vec(3, 0, 10), vec(0, 0, 1), false, false}, {1, vec(-2, 0, 10), vec(0, 0, 1), false, true}, {1, vec(-3, 0, 10), vec(0, 0, 1), false, false}, {1, vec(0, 4, 10), vec(0, 0, 1), false, true}, {1, vec(0, 5, 10), vec(0, 0, 1), false, false}, {1, vec(0, -4, 10), vec(0, 0, 1), false, true}, {1, vec(0, -5, 10), vec(0, 0, 1), false, false},
		{1, vec(2, 4, 10), vec(0, 0, 1), false, true}, {1, vec(-2, -4, 10), vec(0, 0, 1), false, true}, {1, vec(2, -4, 30), vec(0, 0, -1), false, true}, {1, vec(3, 4, 30), vec(0, 0, -1), false, false},
		{1, vec(0, 0, 10), vec(0, 0, -1), false, false}, {1, vec(0, 0, 30), vec(0, 0, 1), false, false}, {1, vec(0, 0, 30), vec(0, 0, -1), false, true}, {1, vec(0, 0, 30), vec(1, 0, -5), false, true}, {1, vec(0, 0, 30), vec(1, 0, -4), false, false},
		{1, vec(0, 0, 10), vec(0, 0, 9), true, false}, {1, vec(0, 0, 10), vec(0, 0, 10), true, false}, {1, vec(0, 0, 10), vec(0, 0, 11), true, true}, {1, vec(0, 0, 30), vec(0, 0, -10), true, false}, {1, vec(0, 0, 30), vec(0, 0, -11), true, true}, {1, vec(0, 0, 10), vec(0, 0, -11), true, false},
		{1, vec(0, 0, 20), vec(0, 0, 1), false, false}, {1, vec(0, 0, 20), vec(0, 0, -1), true, false}, {1, vec(0, 0, 20), vec(1, 1, 0), false, false}, {1, vec(-9, 0, 20), vec(1, 0, 0), false, false}, {1, vec(-9, 0, 20), vec(18, 0, 0), true, false}, {1, vec(-9, 0, 21), vec(1, 0, 0), false, false}, {1, vec(0, 0, 19), vec(3, 2, 0), true, false},
		{2, vec(5, 0, 20), vec(0, 0, 1), false, false}, {2, vec(4, 0, 20), vec(0, 0, 1), false, true}, {2, vec(4, 8, 20), vec(0, 0, 20), true, false}, {2, vec(4, 8, 20), vec(0, 0, 21), true, true}, {2, vec(4, 9, 20), vec(0, 0, 21), true, false}, {8, vec(16, 32, 0), vec(0, 0, 1), false, true}, {8, vec(17, 32, 0), vec(0, 0, 1), false, false}, {8, vec(16, -33, 0), vec(0, 0, 1), false, false},
		{1, vec(131072, 131072, 131072), vec(-131070, -131068, -131052), false, true}, {1, vec(131072, 131072, 131072), vec(-131069, -131068, -131052), false, false}, {1, vec(131072, 131072, 131072), vec(-131070, -131068, -131052), true, false}, {1, vec(131072, 131072, 131072), vec(-131072, -131072, -131072), true, false}, {1, vec(131072, 131072, 131072), vec(-131072, -131072, -131072), false, false}, {1, vec(-131072, 0, 20), vec(131072, 0, 1), false, false}, {1, vec(-131072, 0, 19), vec(131072, 0, 1), false, true},
	} {
		is, e := field.Meets(b(), x.k, x.from, x.along, x.ends)
		if is != x.is || e != api.OK {
			t.Errorf("Meets %d %v %v %v: %v, error %d, want %v", x.k, x.from, x.along, x.ends, is, e, x.is)
		}
	}
}

func TestMeetsWithErrors(t *testing.T) {
	up, here := vec(0, 0, 1), vec(2, 0, 10)
	for _, x := range wrongMirrors() {
		is, e := field.Meets(x.x, 1, here, up, false)
		expect.Result(t, "Meets of no mirror", is, e, false, x.e)
		_, e = field.Meets(x.x, 0, vec(1<<40, 0, 0), vec(0, 0, 0), true)
		expect.Err(t, "Meets of four errors", e, x.e)
	}
	for _, k := range expect.Outside(1, 8) {
		is, e := field.Meets(b(), k, here, up, false)
		expect.Result(t, "Meets of a wrong number", is, e, false, api.ErrRange)
		_, e = field.Meets(b(), k, here, vec(0, 0, 0), false)
		expect.Err(t, "Meets of a wrong number, along nothing", e, api.ErrRange)
	}
	for _, x := range wrongVectors(131072) {
		is, e := field.Meets(b(), 1, x.x, up, false)
		expect.Result(t, "Meets from a wrong place", is, e, false, x.e)
		_, e = field.Meets(b(), 1, x.x, vec(0, 0, 0), false)
		expect.Err(t, "Meets from a wrong place, along nothing", e, x.e)
	}
	for _, x := range wrongWays(131072) {
		for _, ends := range []bool{false, true} {
			is, e := field.Meets(b(), 1, here, x.x, ends)
			expect.Result(t, "Meets along a wrong vector", is, e, false, x.e)
		}
	}
}

// rayTo returns a ray whose way meets a mirror's plane at a place with shares of U and V of some sixths, or one that leads anywhere.
func rayTo(r *rand.Rand, m field.Mirror, k int) (from, along api.Vector) {
	from = randomVector(r, 12*k)
	if r.Intn(3) == 0 {
		return from, randomWay(r, 9)
	}
	share := func() int { return []int{-7, -6, -6, 0, 2, 6, 6, 7}[r.Intn(8)] * k }
	place := plus(times(6*k, m.Centre), times(share(), m.U), times(share(), m.V))
	along = plus(place, times(-6, from))
	if along == (api.Vector{}) {
		return from, vec(1, 0, 0)
	}
	return from, along
}

func TestMeetsOfRandomRays(t *testing.T) {
	r := rand.New(rand.NewSource(57))
	counts := map[bool]int{}
	for range 20000 {
		m, k, ends := randomMirror(r, "x", 9, 5), between(r, 1, 8), r.Intn(2) == 0
		from, along := rayTo(r, m, k)
		wanted := isMet(m, k, from, along, ends)
		counts[wanted]++
		if is, e := field.Meets(m, k, from, along, ends); is != wanted || e != api.OK {
			t.Fatalf("Meets %v %d %v %v %v: %v, error %d, want %v", m, k, from, along, ends, is, e, wanted)
		}
	}
	if counts[true] < 5000 || counts[false] < 5000 {
		t.Errorf("the counts are %v", counts)
	}
}

// TestMeetsUpToTheLimits checks rays and mirrors with the greatest numbers, just beside the edges.
func TestMeetsUpToTheLimits(t *testing.T) {
	r := rand.New(rand.NewSource(58))
	counts := map[bool]int{}
	for range 5000 {
		m := randomMirror(r, "x", 4096, 64)
		from, target := randomVector(r, 131072/2), plus(times(8, m.Centre), times(8*(2*r.Intn(2)-1), m.U), times(between(r, -9, 9), m.V), randomVector(r, 1))
		along := plus(target, minus(from))
		for _, ends := range []bool{false, true} {
			wanted := isMet(m, 8, from, along, ends)
			counts[wanted]++
			if is, e := field.Meets(m, 8, from, along, ends); is != wanted || e != api.OK {
				t.Fatalf("Meets %v %v %v %v: %v, error %d, want %v", m, from, along, ends, is, e, wanted)
			}
		}
	}
	if counts[true] < 1000 || counts[false] < 1000 {
		t.Errorf("the counts are %v", counts)
	}
}

// rows returns the reports of n rows of facets that are the same.
func rows(n int, row ...bool) []bool { return slices.Repeat(row, n) }

func TestDark(t *testing.T) {
	up := vec(0, 0, 1)
	for _, x := range []struct {
		l      []field.Mirror
		mirror int
		sun    api.Vector
		k      int
		dark   []bool
	}{
		{mirrors(a(), b()), 0, up, 2, rows(2, true, true)}, {mirrors(a(), b()), 0, up, 4, rows(4, false, true, true, false)}, {mirrors(a(), b()), 1, up, 4, rows(4, false, false, false, false)}, {mirrors(b(), a()), 1, up, 4, rows(4, false, true, true, false)}, {mirrors(a(), b()), 0, up, 3, rows(3, false, true, false)}, {mirrors(a(), b()), 0, up, 1, rows(1, true)}, {mirrors(a()), 0, up, 2, rows(2, false, false)},
		{mirrors(a(), b()), 0, vec(1, 0, 1), 2, rows(2, false, false)}, {mirrors(a(), b()), 0, vec(1, 0, 5), 4, rows(4, true, true, false, false)}, {mirrors(a(), b(), c()), 0, up, 4, rows(4, false, true, true, false)}, {mirrors(a(), c()), 0, up, 8, rows(8, make([]bool, 8)...)},
		{mirrors(a()), 0, vec(0, 0, -1), 2, rows(2, true, true)}, {mirrors(a()), 0, vec(1, 0, 0), 2, rows(2, true, true)}, {mirrors(a()), 0, vec(1024, -1024, 1), 2, rows(2, false, false)}, {mirrors(a(), named("x", a())), 0, up, 2, rows(2, false, false)}, {mirrors(a(), b()), 0, vec(0, 0, 1024), 1, rows(1, true)},
	} {
		dark, e := field.Dark(x.l, x.mirror, x.sun, x.k)
		expect.List(t, "Dark", dark, e, x.dark, api.OK)
	}
}

func TestBlocked(t *testing.T) {
	for _, x := range []struct {
		l       []field.Mirror
		mirror  int
		target  api.Vector
		k       int
		blocked []bool
	}{
		{mirrors(a(), b()), 0, vec(0, 0, 60), 2, rows(2, true, true)}, {mirrors(a(), b()), 0, vec(0, 0, 60), 4, rows(4, false, true, true, false)}, {mirrors(a(), b()), 0, vec(100, 0, 60), 4, rows(4, false, false, false, false)}, {mirrors(a(), b()), 1, vec(0, 0, 60), 4, rows(4, false, false, false, false)},
		{mirrors(a(), b()), 0, vec(0, 0, 20), 2, rows(2, false, false)}, {mirrors(a(), b()), 0, vec(0, 0, 21), 2, rows(2, true, true)}, {mirrors(a(), b()), 0, vec(0, 0, 19), 2, rows(2, false, false)}, {mirrors(a(), b()), 0, vec(3, 0, 20), 2, rows(2, false, false)},
		{mirrors(a()), 0, vec(0, 0, 10), 1, rows(1, true)}, {mirrors(a()), 0, vec(2, 2, 10), 2, rows(2, true, true)}, {mirrors(a()), 0, vec(50, 0, 10), 2, rows(2, true, true)}, {mirrors(a()), 0, vec(0, 0, 9), 2, rows(2, true, true)}, {mirrors(a()), 0, vec(0, 0, 11), 2, rows(2, false, false)}, {mirrors(a()), 0, vec(4096, -4096, 4096), 2, rows(2, false, false)},
		{mirrors(field.Mirror{Name: "x", U: vec(4, 0, 4), V: vec(0, 4, 0)}), 0, vec(0, 0, 1), 2, rows(2, false, false)}, {mirrors(field.Mirror{Name: "x", U: vec(4, 0, 4), V: vec(0, 4, 0)}), 0, vec(1, 0, 0), 2, rows(2, true, true)},
	} {
		blocked, e := field.Blocked(x.l, x.mirror, x.target, x.k)
		expect.List(t, "Blocked", blocked, e, x.blocked, api.OK)
	}
}

func TestDarkAndBlockedOfRandomFields(t *testing.T) {
	r := rand.New(rand.NewSource(59))
	counts := map[bool]int{}
	for range 3000 {
		l := randomField(r, between(r, 1, 5))
		mirror, k := r.Intn(len(l)), between(r, 1, 8)
		sun, target := randomWay(r, 4), randomVector(r, 20)
		dark, e := field.Dark(l, mirror, sun, k)
		expect.List(t, "Dark", dark, e, darkOf(l, mirror, sun, k), api.OK)
		blocked, e := field.Blocked(l, mirror, target, k)
		expect.List(t, "Blocked", blocked, e, blockedOf(l, mirror, target, k), api.OK)
		counts[slices.Contains(dark, true) && slices.Contains(dark, false)]++
		counts[slices.Contains(blocked, true) && slices.Contains(blocked, false)]++
	}
	if counts[true] < 500 {
		t.Errorf("only %d mirrors are dark or blocked in parts", counts[true])
	}
}

// TestAtTheLimits checks a field, a sun and a target at the ends of their ranges.
func TestAtTheLimits(t *testing.T) {
	far := field.Mirror{Name: "far", Centre: vec(-4096, -4096, -4096), U: vec(64, -64, 0), V: vec(64, 64, -64)}
	near := field.Mirror{Name: "near", Centre: vec(-4000, -4000, -4000), U: vec(64, -64, 0), V: vec(0, 0, 64)}
	l, target, sun := mirrors(far, near), vec(4096, 4096, 4096), vec(1024, 1024, 1023)
	n, e := field.Lit(l, 0, sun, target, 8)
	expect.Result(t, "Lit", n, e, litOf(l, 0, sun, target, 8), api.OK)
	ranks, e := field.Ranked(l, sun, target, 8)
	expect.List(t, "Ranked", ranks, e, []int{0, 1}, api.OK)
	dark, e := field.Dark(l, 0, sun, 8)
	expect.List(t, "Dark", dark, e, darkOf(l, 0, sun, 8), api.OK)
	blocked, e := field.Blocked(l, 0, target, 8)
	expect.List(t, "Blocked", blocked, e, blockedOf(l, 0, target, 8), api.OK)
	if !slices.Contains(dark, true) || !slices.Contains(dark, false) || !slices.Contains(blocked, true) || !slices.Contains(blocked, false) {
		t.Errorf("dark %v, blocked %v", dark, blocked)
	}
}

// seen is the arguments of a call that asks for the facets of a mirror of a field.
type seen struct {
	l      []field.Mirror
	mirror int
	way    api.Vector
	k      int
}

// wrongSeen returns arguments with an error, also with further ones to its right; ways are the wrong vectors, beyond a limit.
func wrongSeen(limit int, ways []wrong[api.Vector]) []wrong[seen] {
	field, way := mirrors(a(), b(), c()), vec(0, 0, 1)
	var l []wrong[seen]
	for _, x := range wrongFields() {
		l = append(l, wrong[seen]{seen{x.x, 0, way, 2}, x.e}, wrong[seen]{seen{x.x, -1, vec(0, 0, limit+1), 0}, x.e})
	}
	for _, n := range expect.Outside(0, 2) {
		l = append(l, wrong[seen]{seen{field, n, way, 2}, api.ErrUnknown}, wrong[seen]{seen{field, n, vec(limit+1, 0, 0), 0}, api.ErrUnknown}, wrong[seen]{seen{nil, n, way, 2}, api.ErrUnknown})
	}
	for _, x := range ways {
		l = append(l, wrong[seen]{seen{field, 0, x.x, 2}, x.e}, wrong[seen]{seen{field, 2, x.x, 9}, x.e})
	}
	for _, k := range expect.Outside(1, 8) {
		l = append(l, wrong[seen]{seen{field, 0, way, k}, api.ErrRange})
	}
	return append(l, wrong[seen]{seen{nil, 0, way, 2}, api.ErrUnknown})
}

func TestDarkAndBlockedWithErrors(t *testing.T) {
	for _, x := range wrongSeen(1024, wrongWays(1024)) {
		dark, e := field.Dark(x.x.l, x.x.mirror, x.x.way, x.x.k)
		expect.List(t, "Dark with an error", dark, e, nil, x.e)
	}
	for _, x := range wrongSeen(4096, wrongVectors(4096)) {
		blocked, e := field.Blocked(x.x.l, x.x.mirror, x.x.way, x.x.k)
		expect.List(t, "Blocked with an error", blocked, e, nil, x.e)
	}
}
