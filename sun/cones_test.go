package sun_test

import (
	"math"
	"math/big"
	"math/rand"
	"testing"

	"spillage/api"
	"spillage/expect"
	"spillage/sun"
)

// P2.2

func cone(axis api.Vector, num, den int) sun.Cone { return sun.Cone{Axis: axis, Num: num, Den: den} }

func upwards(num, den int) sun.Cone { return cone(vec(0, 0, 1), num, den) }

func TestCheckCone(t *testing.T) {
	for _, c := range []sun.Cone{upwards(1, 2), upwards(0, 1), upwards(1, 1), upwards(100, 100), upwards(0, 100), upwards(2, 4), cone(vec(4096, -4096, 4096), 99, 100), cone(vec(-1, 0, 0), 0, 7)} {
		expect.Err(t, "CheckCone", sun.CheckCone(c), api.OK)
	}
	for _, x := range wrongCones() {
		if e := sun.CheckCone(x.x); e != x.e {
			t.Errorf("CheckCone %v: error %d, want %d", x.x, e, x.e)
		}
	}
}

func TestInside(t *testing.T) {
	for _, x := range []struct {
		c  sun.Cone
		v  api.Vector
		is bool
	}{
		{upwards(1, 2), vec(1, 0, 1), true}, {upwards(1, 2), vec(2, 0, 1), false}, {upwards(1, 2), vec(1, 0, -1), false}, {upwards(1, 2), vec(0, 0, -1), false}, {upwards(2, 4), vec(0, -5, 5), true},
		{upwards(51, 100), vec(1, 0, 1), false}, {upwards(0, 1), vec(5, 0, 1), true}, {upwards(0, 1), vec(5, 0, 0), false}, {upwards(0, 1), vec(5, 0, -1), false}, {upwards(0, 100), vec(4096, 4096, 1), true},
		{upwards(1, 1), vec(0, 0, 9), true}, {upwards(1, 1), vec(0, 1, 9), false}, {upwards(1, 1), vec(0, 0, -9), false}, {upwards(100, 100), vec(0, 1, 4096), false},
		{cone(vec(1, 2, 2), 64, 81), vec(2, 1, 2), true}, {cone(vec(1, 2, 2), 65, 82), vec(2, 1, 2), false}, {cone(vec(4096, 4096, 4096), 100, 100), vec(4096, 4096, 4096), true},
		{cone(vec(4096, 4096, 4096), 100, 100), vec(4096, 4096, 4095), false}, {cone(vec(4096, 4096, 4096), 99, 100), vec(4096, 4096, 4095), true}, {cone(vec(4096, 4096, 4096), 99, 100), vec(-4096, -4096, -4096), false},
	} {
		is, e := sun.Inside(x.c, x.v)
		expect.Result(t, "Inside", is, e, x.is, api.OK)
	}
	for _, x := range wrongCones() {
		is, e := sun.Inside(x.x, vec(0, 0, 1))
		expect.Result(t, "Inside of a wrong cone", is, e, false, x.e)
		is, e = sun.Inside(x.x, api.Vector{X: 5000})
		expect.Result(t, "Inside of a wrong cone and a wrong ray", is, e, false, x.e)
	}
	for _, x := range wrongRays() {
		is, e := sun.Inside(upwards(0, 1), x.x)
		expect.Result(t, "Inside of a wrong ray", is, e, false, x.e)
	}
}

func TestInsideOfRandomCones(t *testing.T) {
	r := rand.New(rand.NewSource(4))
	for i := range 4000 {
		reach := []int{1, 2, 9, 4096}[i%4]
		axis, v, den := random(r, reach), random(r, reach), 1+r.Intn(100)
		cosine := signed(axis, v)
		for num := range den + 1 {
			is, e := sun.Inside(cone(axis, num, den), v)
			expect.Result(t, "Inside", is, e, cosine.Sign() > 0 && cosine.Cmp(frac(num, den)) >= 0, api.OK)
		}
	}
}

func TestMeets(t *testing.T) {
	for _, x := range []struct {
		c    sun.Cone
		a, b api.Vector
		is   bool
	}{
		{upwards(1, 2), vec(3, 0, 1), vec(-3, 0, 1), true}, {upwards(1, 2), vec(3, 0, 1), vec(0, 3, 1), false}, {upwards(2, 11), vec(3, 0, 1), vec(0, 3, 1), true}, {upwards(19, 100), vec(3, 0, 1), vec(0, 3, 1), false},
		{upwards(1, 2), vec(3, 0, 1), vec(1, 0, 1), true}, {upwards(1, 2), vec(1, 0, 1), vec(3, 0, 1), true}, {upwards(51, 100), vec(3, 0, 1), vec(1, 0, 1), false},
		{upwards(1, 2), vec(3, 0, -1), vec(-3, 0, -1), false}, {upwards(0, 1), vec(3, 0, -1), vec(-3, 1, -1), false}, {upwards(0, 1), vec(1, 0, 0), vec(0, 1, 0), false}, {upwards(0, 1), vec(1, 0, 0), vec(0, 1, 1), true},
		{upwards(1, 2), vec(3, 0, 1), vec(6, 0, 2), false}, {upwards(1, 10), vec(3, 0, 1), vec(6, 0, 2), true}, {upwards(11, 100), vec(3, 0, 1), vec(3, 0, 1), false}, {upwards(1, 1), vec(0, 0, 2), vec(0, 0, 5), true},
		{upwards(1, 1), vec(1, 0, 1), vec(-2, 0, 1), true}, {upwards(1, 1), vec(1, 0, 1), vec(-2, 1, 1), false}, {upwards(1, 1), vec(1, 1, 1), vec(-1, -1, 0), true}, {upwards(1, 1), vec(1, 0, -1), vec(-2, 0, 1), false},
		{cone(vec(5, 1, 0), 1, 1), vec(0, 1, 0), vec(1, 0, 0), true}, {cone(vec(256, 1, 0), 1, 1), vec(0, 1, 0), vec(1, 0, 0), true}, {cone(vec(256, -1, 0), 1, 1), vec(0, 1, 0), vec(1, 0, 0), false},
		{upwards(1, 3), vec(9, 0, 1), vec(2, 0, 1), false}, {upwards(1, 5), vec(9, 0, 1), vec(2, 0, 1), true}, {upwards(1, 2), vec(1, 0, -9), vec(3, 0, 1), false}, {upwards(1, 2), vec(256, 0, -255), vec(-256, 1, 256), true},
		{cone(vec(256, 256, 256), 100, 100), vec(256, 256, 255), vec(256, 256, 256), true}, {cone(vec(256, 256, 256), 100, 100), vec(256, 256, 254), vec(254, 254, 256), true},
		{cone(vec(256, 256, 256), 100, 100), vec(256, 256, 254), vec(254, 253, 256), false}, {cone(vec(256, 256, 256), 99, 100), vec(256, 256, 254), vec(254, 253, 256), true},
	} {
		is, e := sun.Meets(x.c, x.a, x.b)
		expect.Result(t, "Meets", is, e, x.is, api.OK)
		is, e = sun.Meets(x.c, x.b, x.a)
		expect.Result(t, "Meets on the way back", is, e, x.is, api.OK)
	}
}

func TestMeetsWithErrors(t *testing.T) {
	a, b := vec(3, 0, 1), vec(0, 3, 1)
	check := func(what string, c sun.Cone, a, b api.Vector, wanted api.Errno) {
		t.Helper()
		is, e := sun.Meets(c, a, b)
		expect.Result(t, what, is, e, false, wanted)
	}
	for _, x := range wrongCones() {
		check("Meets of a wrong cone", x.x, a, b, x.e)
		check("Meets of a wrong cone and wrong rays", x.x, vec(0, 0, 0), vec(5000, 0, 0), x.e)
	}
	for _, x := range wrongRays() {
		check("Meets from a wrong ray", upwards(0, 1), x.x, b, x.e)
		check("Meets to a wrong ray", upwards(0, 1), a, x.x, x.e)
		check("Meets to a wrong ray, with other rays than turns", cone(vec(257, 0, 0), 0, 1), vec(257, 0, 0), x.x, x.e)
	}
	check("Meets of two errors", upwards(0, 1), vec(0, 0, 0), vec(5000, 0, 0), api.ErrZero)
	check("Meets of two errors", upwards(0, 1), vec(5000, 0, 0), vec(0, 0, 0), api.ErrRange)
	check("Meets of an axis that is no turn, and no ray", cone(vec(257, 0, 0), 0, 1), a, vec(0, 0, 0), api.ErrZero)
	for _, n := range []int{257, -257, 4096, -4096} {
		for _, v := range []api.Vector{vec(n, 0, 1), vec(0, n, 1), vec(1, 1, n)} {
			check("Meets from a ray that is no turn", upwards(0, 1), v, b, api.ErrRange)
			check("Meets to a ray that is no turn", upwards(0, 1), a, v, api.ErrRange)
			check("Meets of an axis that is no turn", cone(v, 0, 1), a, b, api.ErrRange)
			check("Meets from a ray that is no turn to the opposite one", upwards(0, 1), v, minus(v), api.ErrRange)
		}
	}
	for _, x := range [][2]api.Vector{{a, minus(a)}, {vec(1, 2, 2), vec(-2, -4, -4)}, {vec(0, 0, 1), vec(0, 0, -256)}, {vec(-4, 6, 0), vec(6, -9, 0)}} {
		check("Meets of opposite turns", upwards(0, 1), x[0], x[1], api.ErrForm)
		check("Meets of opposite turns", upwards(1, 1), x[1], x[0], api.ErrForm)
	}
}

// way returns the ray x a + y b.
func way(a, b api.Vector, x, y int) api.Vector {
	return vec(x*a.X+y*b.X, x*a.Y+y*b.Y, x*a.Z+y*b.Z)
}

// TestMeetsAsItsRaysAre compares Meets with many rays of the way: exactly if one is inside, but for those that the rays miss closely.
func TestMeetsAsItsRaysAre(t *testing.T) {
	r := rand.New(rand.NewSource(5))
	const steps = 60
	for range 3000 {
		a, b, axis := random(r, 5), random(r, 5), random(r, 5)
		if cross(a, b) == (api.Vector{}) && dot(a, b) < 0 {
			continue
		}
		den := 1 + r.Intn(100)
		num := r.Intn(den + 1)
		met, e := sun.Meets(cone(axis, num, den), a, b)
		expect.Err(t, "Meets", e, api.OK)
		one, near := false, false
		for n := range steps + 1 {
			v := way(a, b, steps-n, n)
			one = one || right[bool](t)(sun.Inside(cone(axis, num, den), v))
			cosine, _ := signed(axis, v).Float64()
			near = near || cosine > 0 && cosine >= float64(num)/float64(den)-0.1
		}
		if one && !met || met && !near {
			t.Errorf("Meets %v %d/%d from %v to %v: %v", axis, num, den, a, b, met)
		}
	}
}

// nearest returns the square of the greatest cosine of the axis with a way, if it lies between a and b.
func nearest(axis, a, b api.Vector) (*big.Rat, bool) {
	normal := cross(a, b)
	// The projection lies between a and b if it is on b's side of a, and on a's side of b.
	x, y := dot(cross(axis, b), normal), dot(cross(a, axis), normal)
	if x <= 0 || y <= 0 {
		return nil, false
	}
	// The axis and the normal have the square of the sine.
	sine := signed(axis, normal)
	return sine.Sub(big.NewRat(1, 1), sine.Abs(sine)), true
}

// TestMeetsOfTheNearestShares checks the shares next to the greatest cosine, exactly, also for great turns.
func TestMeetsOfTheNearestShares(t *testing.T) {
	r := rand.New(rand.NewSource(6))
	checked := 0
	for i := range 6000 {
		reach := []int{3, 20, 256}[i%3]
		a, b, axis := random(r, reach), random(r, reach), random(r, reach)
		cosine, between := nearest(axis, a, b)
		if !between {
			continue
		}
		checked++
		den := 1 + r.Intn(100)
		scaled := new(big.Rat).Mul(cosine, frac(den, 1))
		num := int(new(big.Int).Quo(scaled.Num(), scaled.Denom()).Int64())
		met, e := sun.Meets(cone(axis, num, den), a, b)
		expect.Result(t, "Meets of a share that is reached", met, e, true, api.OK)
		if num < den {
			met, e = sun.Meets(cone(axis, num+1, den), a, b)
			expect.Result(t, "Meets of a share that is not reached", met, e, false, api.OK)
		}
	}
	if checked < 500 {
		t.Fatalf("only %d ways were checked", checked)
	}
}

func TestFrame(t *testing.T) {
	for _, x := range []struct{ n, first, second api.Vector }{
		{vec(0, 3, 4), vec(-1, 0, 0), vec(0, -4, 3)}, {vec(0, 0, 5), vec(1, 0, 0), vec(0, 1, 0)}, {vec(0, 0, -5), vec(1, 0, 0), vec(0, -1, 0)}, {vec(2, 0, 0), vec(0, 1, 0), vec(0, 0, 1)},
		{vec(0, -2, 0), vec(1, 0, 0), vec(0, 0, 1)}, {vec(1, 2, 2), vec(-2, 1, 0), vec(-2, -4, 5)}, {vec(2, 4, 4), vec(-2, 1, 0), vec(-2, -4, 5)}, {vec(0, 0, 4096), vec(1, 0, 0), vec(0, 1, 0)},
		{vec(4096, 4095, 4096), vec(-4095, 4096, 0), vec(-16777216, -16773120, 33546241)}, // no limit is named for a frame
	} {
		f, e := sun.Frame(x.n)
		expect.Result(t, "Frame", f, e, [2]api.Vector{x.first, x.second}, api.OK)
	}
	for _, x := range wrongRays() {
		f, e := sun.Frame(x.x)
		expect.Result(t, "Frame", f, e, [2]api.Vector{}, x.e)
	}
	r := rand.New(rand.NewSource(7))
	for range 300 {
		n := random(r, 12)
		if n.X == 0 && n.Y == 0 {
			continue
		}
		first := divided(cross(vec(0, 0, 1), n))
		f, e := sun.Frame(n)
		expect.Result(t, "Frame", f, e, [2]api.Vector{first, divided(cross(n, first))}, api.OK)
	}
}

func TestHit(t *testing.T) {
	far := 1 << 20
	for _, x := range []struct {
		from, d, place, normal api.Vector
		h                      api.Ratio
	}{
		{vec(0, 0, 10), vec(1, 0, -1), vec(0, 0, 4), vec(0, 0, 1), ratio(6, 1)}, {vec(0, 0, 10), vec(1, 0, 1), vec(0, 0, 4), vec(0, 0, 1), ratio(-6, 1)}, {vec(0, 0, 0), vec(1, 2, 2), vec(5, 0, 0), vec(1, 1, 0), ratio(5, 3)},
		{vec(0, 0, 0), vec(1, 2, 2), vec(5, 0, 0), vec(-1, -1, 0), ratio(5, 3)}, {vec(0, 0, 0), vec(-1, -2, -2), vec(5, 0, 0), vec(1, 1, 0), ratio(-5, 3)}, {vec(0, 0, 0), vec(1, 0, 0), vec(0, 0, 0), vec(1, 0, 0), ratio(0, 1)},
		{vec(7, 8, 9), vec(-4, 0, 0), vec(7, 1, 1), vec(3, 0, 0), ratio(0, 1)}, {vec(0, 0, 0), vec(4, 0, 0), vec(6, 0, 0), vec(2, 0, 0), ratio(3, 2)}, {vec(3, 2, 1), vec(1, 1, 1), vec(1, 2, 3), vec(1, 2, 3), ratio(2, 3)},
		{vec(-far, -far, -far), vec(1, 0, 0), vec(far, far, far), vec(4095, 4096, 4096), ratio(25767706624, 4095)}, {vec(far, far, far), vec(4096, 4096, 4096), vec(-far, -far, -far), vec(4096, 4096, 4096), ratio(-512, 1)},
	} {
		h, e := sun.Hit(x.from, x.d, x.place, x.normal)
		expect.Result(t, "Hit", h, e, x.h, api.OK)
	}
}

func TestHitWithErrors(t *testing.T) {
	o, d := vec(0, 0, 0), vec(0, 0, 1)
	check := func(what string, from, d, place, normal api.Vector, wanted api.Errno) {
		t.Helper()
		h, e := sun.Hit(from, d, place, normal)
		expect.Result(t, what, h, e, api.Ratio{}, wanted)
	}
	for _, x := range wrongVectors(api.MaxReach) {
		check("Hit from a wrong place", x.x, vec(0, 0, 0), o, vec(0, 0, 0), api.ErrRange)
		check("Hit of a wrong place of a plane", o, d, x.x, vec(0, 0, 0), api.ErrRange)
	}
	for _, x := range wrongRays() {
		check("Hit along a wrong ray", o, x.x, o, d, x.e)
		check("Hit along a wrong ray", o, x.x, vec(math.MaxInt, 0, 0), vec(0, 0, 0), x.e)
		check("Hit of a wrong normal", o, d, o, x.x, x.e)
	}
	check("Hit along a plane", o, vec(1, 0, 0), vec(5, 0, 0), vec(0, 0, 1), api.ErrNone)
	check("Hit in a plane", o, vec(1, 0, 0), o, vec(0, 3, 1), api.ErrNone)
	check("Hit along a plane", o, vec(1, -2, 1), vec(5, 0, 0), vec(1, 1, 1), api.ErrNone)
}

func TestHitLiesInThePlane(t *testing.T) {
	r := rand.New(rand.NewSource(8))
	for i := range 2000 {
		reach := []int{3, 4096}[i%2]
		from, d, place, normal := random(r, 256*reach), random(r, reach), random(r, 256*reach), random(r, reach)
		if dot(d, normal) == 0 {
			continue
		}
		h, e := sun.Hit(from, d, place, normal)
		expect.Err(t, "Hit", e, api.OK)
		at := new(big.Rat).Mul(frac(h.Num, h.Den), frac(dot(d, normal), 1))
		if at.Cmp(frac(dot(place, normal)-dot(from, normal), 1)) != 0 || h.Den < 1 {
			t.Fatalf("Hit from %v along %v of the plane %v %v: %v", from, d, place, normal, h)
		}
		if exact := frac(h.Num, h.Den); exact.Num().Int64() != int64(h.Num) || exact.Denom().Int64() != int64(h.Den) {
			t.Fatalf("Hit: %v is not in lowest terms", h)
		}
	}
}
