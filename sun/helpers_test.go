package sun_test

import (
	"math"
	"math/big"
	"math/rand"
	"slices"
	"testing"

	"spillage/api"
	"spillage/expect"
	"spillage/sun"
)

// right returns the result of a call that has no error.
func right[T any](t *testing.T) func(T, api.Errno) T {
	return func(x T, e api.Errno) T {
		t.Helper()
		if e != api.OK {
			t.Fatalf("a right call: error %d", e)
		}
		return x
	}
}

func vec(x, y, z int) api.Vector { return api.Vector{X: x, Y: y, Z: z} }

func ratio(num, den int) api.Ratio { return api.Ratio{Num: num, Den: den} }

func span(from, to int) api.Span { return api.Span{From: from, To: to} }

func minus(v api.Vector) api.Vector { return vec(-v.X, -v.Y, -v.Z) }

func dot(a, b api.Vector) int { return a.X*b.X + a.Y*b.Y + a.Z*b.Z }

func cross(a, b api.Vector) api.Vector {
	return vec(a.Y*b.Z-a.Z*b.Y, a.Z*b.X-a.X*b.Z, a.X*b.Y-a.Y*b.X)
}

// divided returns a vector without the common divisors of its parts.
func divided(v api.Vector) api.Vector {
	for n := 2; n <= max(v.X, -v.X, v.Y, -v.Y, v.Z, -v.Z); n++ {
		for v.X%n == 0 && v.Y%n == 0 && v.Z%n == 0 {
			v = vec(v.X/n, v.Y/n, v.Z/n)
		}
	}
	return v
}

// frac returns a / b, or nil if b is 0.
func frac(a, b int) *big.Rat {
	if b == 0 {
		return nil
	}
	return big.NewRat(int64(a), int64(b))
}

// signed returns the square of the cosine of two vectors, with the sign of the cosine.
func signed(a, b api.Vector) *big.Rat {
	d := big.NewInt(int64(dot(a, b)))
	num := new(big.Int).Mul(d, new(big.Int).Abs(d))
	den := new(big.Int).Mul(big.NewInt(int64(dot(a, a))), big.NewInt(int64(dot(b, b))))
	return new(big.Rat).SetFrac(num, den)
}

// isRay reports whether a vector is a ray.
func isRay(v api.Vector) bool {
	return v != api.Vector{} && max(v.X, -v.X, v.Y, -v.Y, v.Z, -v.Z) <= 4096
}

// random returns a ray with parts from -reach to reach.
func random(r *rand.Rand, reach int) api.Vector {
	for {
		part := func() int { return r.Intn(2*reach+1) - reach }
		if v := vec(part(), part(), part()); v != (api.Vector{}) {
			return v
		}
	}
}

// randomWhole returns a whole ray.
func randomWhole(t *testing.T, r *rand.Rand, root int) api.Vector {
	t.Helper()
	for {
		part := func() int { return r.Intn(2*root+1) - root }
		if l := [4]int{part(), part(), part(), part()}; l != [4]int{} {
			return right[api.Vector](t)(sun.Whole(l))
		}
	}
}

// day and air are the sky S and the air A of the chapter's examples.
func day() sun.Sky {
	return sun.Sky{Name: "s", Suns: []sun.Sun{{Tick: 0, Direction: vec(3, 0, 0)}, {Tick: 10, Direction: vec(2, 1, 2)}, {Tick: 20, Direction: vec(-1, 2, 2)}}}
}

func air() []sun.Step { return []sun.Step{{From: 0, Lift: 8}, {From: 64, Lift: 0}} }

// sky returns the sky s of some suns.
func sky(suns ...sun.Sun) sun.Sky { return sun.Sky{Name: "s", Suns: suns} }

func told(tick, x, y, z int) sun.Sun { return sun.Sun{Tick: tick, Direction: vec(x, y, z)} }

// many returns a sky of n suns.
func many(n, gap int) sun.Sky {
	s := sun.Sky{Name: "many"}
	for i := range n {
		s.Suns = append(s.Suns, told(i*gap, i%2, 1-i%2, 0))
	}
	return s
}

func sameSky(a, b sun.Sky) bool {
	return a.Name == b.Name && slices.Equal(a.Suns, b.Suns)
}

type wrong[T any] struct {
	x T
	e api.Errno
}

// outside are the numbers beside a limit, and those that are far away.
func outside(limit int) []int {
	return expect.Outside(-limit, limit)
}

// wrongVectors are vectors with a part above a limit, at each place.
func wrongVectors(limit int) []wrong[api.Vector] {
	var l []wrong[api.Vector]
	for _, n := range outside(limit) {
		for _, v := range []api.Vector{vec(n, 0, 0), vec(0, n, 0), vec(0, 0, n), vec(n, n, n), vec(1, n, 1)} {
			l = append(l, wrong[api.Vector]{v, api.ErrRange})
		}
	}
	return l
}

func wrongDirections() []wrong[api.Vector] {
	return append(wrongVectors(api.MaxReach), wrong[api.Vector]{vec(0, 0, 0), api.ErrZero})
}

func wrongRays() []wrong[api.Vector] {
	return append(wrongVectors(sun.MaxRay), wrongDirections()...)
}

func wrongCones() []wrong[sun.Cone] {
	var l []wrong[sun.Cone]
	for _, x := range wrongRays() {
		l = append(l, wrong[sun.Cone]{sun.Cone{Axis: x.x, Num: 1, Den: 2}, x.e}, wrong[sun.Cone]{sun.Cone{Axis: x.x, Num: -1}, x.e})
	}
	for _, x := range [][2]int{{0, 0}, {1, 0}, {1, -1}, {1, 101}, {101, 101}, {101, 100}, {3, 2}, {2, 1}, {-1, 1}, {-1, 100}, {0, math.MinInt}, {0, math.MaxInt}, {math.MinInt, 1}, {math.MaxInt, 100}, {math.MinInt, math.MinInt}} {
		l = append(l, wrong[sun.Cone]{sun.Cone{Axis: vec(0, 0, 1), Num: x[0], Den: x[1]}, api.ErrRange})
	}
	return l
}

func wrongSkies() []wrong[sun.Sky] {
	a, b := told(0, 3, 0, 0), told(10, 2, 1, 2)
	l := []wrong[sun.Sky]{
		{sun.Sky{}, api.ErrName}, {sun.Sky{Name: "9", Suns: day().Suns}, api.ErrName}, {sun.Sky{Name: "a b", Suns: day().Suns}, api.ErrName},
		{sun.Sky{Name: "abcdefghijklmnopqrstuvwxy", Suns: day().Suns}, api.ErrName}, {sun.Sky{Name: "", Suns: make([]sun.Sun, 65)}, api.ErrName},
		{sky(), api.ErrShort}, {sky(a), api.ErrShort}, {sky(told(-1, 0, 0, 0)), api.ErrShort},
		{many(65, 1), api.ErrMany}, {sky(make([]sun.Sun, 65)...), api.ErrMany}, {sky(make([]sun.Sun, 100000)...), api.ErrMany},
		{sky(told(-1, 3, 0, 0), b), api.ErrRange}, {sky(told(-1, 0, 0, 0), b), api.ErrRange}, {sky(a, told(-1, 2, 1, 2)), api.ErrRange}, {sky(a, told(math.MinInt, 2, 1, 2)), api.ErrRange},
		{sky(told(9999999, 3, 0, 0), told(10000001, 2, 1, 2)), api.ErrRange}, {sky(a, told(math.MaxInt, 0, 0, 0)), api.ErrRange},
		{sky(a, told(0, 2, 1, 2)), api.ErrOrder}, {sky(a, b, told(10, 2, 1, 2)), api.ErrOrder}, {sky(told(5, 3, 0, 0), told(4, 0, 0, 0)), api.ErrOrder},
		{sky(a, told(201, 2, 1, 2)), api.ErrSpan}, {sky(a, b, told(211, 2, 1, 2)), api.ErrSpan}, {sky(a, told(10000000, 0, 0, 0)), api.ErrSpan}, {sky(told(0, 3, 0, 0), told(1, 3, 0, 0), told(202, 3, 0, 1)), api.ErrSpan},
		{sky(a, told(10, 0, 0, 4)), api.ErrShape}, {sky(a, told(10, 1, 0, 0)), api.ErrShape}, {sky(a, b, told(20, 1, 2, 3)), api.ErrShape}, {sky(a, told(10, 3, 1, 0), told(5, 3, 0, 0)), api.ErrShape},
	}
	for _, x := range wrongRays() {
		l = append(l, wrong[sun.Sky]{sky(sun.Sun{Tick: 0, Direction: x.x}, b), x.e}, wrong[sun.Sky]{sky(a, sun.Sun{Tick: 10, Direction: x.x}), x.e}, wrong[sun.Sky]{sky(a, b, sun.Sun{Tick: 20, Direction: x.x}, told(-1, 3, 0, 0)), x.e})
	}
	return l
}

func wrongAirs() []wrong[[]sun.Step] {
	l := []wrong[[]sun.Step]{
		{make([]sun.Step, 17), api.ErrMany}, {make([]sun.Step, 100000), api.ErrMany}, {slices.Repeat([]sun.Step{{From: -100001}}, 17), api.ErrMany},
		{[]sun.Step{{From: 1}, {From: 1}}, api.ErrOrder}, {[]sun.Step{{From: 1}, {From: 0}}, api.ErrOrder}, {[]sun.Step{{From: -100000}, {From: 5}, {From: 4}, {From: 200000}}, api.ErrOrder},
		{[]sun.Step{{From: 5}, {From: 4, Lift: 17}}, api.ErrRange}, {[]sun.Step{{From: 5}, {From: 4, Lift: -1}}, api.ErrRange},
	}
	for _, n := range outside(100000) {
		l = append(l, wrong[[]sun.Step]{[]sun.Step{{From: n}}, api.ErrRange}, wrong[[]sun.Step]{[]sun.Step{{From: 0}, {From: n}}, api.ErrRange})
	}
	for _, n := range append(outside(16), -1) {
		l = append(l, wrong[[]sun.Step]{[]sun.Step{{Lift: n}}, api.ErrRange}, wrong[[]sun.Step]{[]sun.Step{{From: 0}, {From: 1, Lift: n}}, api.ErrRange})
	}
	return l
}
