package sun_test

import (
	"math"
	"math/rand"
	"testing"

	"spillage/api"
	"spillage/expect"
	"spillage/sun"
)

// P2.1

func TestCheckRay(t *testing.T) {
	for _, v := range []api.Vector{vec(1, 2, 2), vec(1, 0, 0), vec(0, -1, 0), vec(0, 0, 1), vec(4096, -4096, 4096), vec(-4096, 4096, -4096)} {
		expect.Err(t, "CheckRay", sun.CheckRay(v), api.OK)
	}
	for _, x := range wrongRays() {
		if e := sun.CheckRay(x.x); e != x.e {
			t.Errorf("CheckRay %v: error %d, want %d", x.x, e, x.e)
		}
	}
}

func TestReduced(t *testing.T) {
	for _, x := range []struct{ v, r api.Vector }{
		{vec(2, 4, 4), vec(1, 2, 2)}, {vec(-6, 0, 9), vec(-2, 0, 3)}, {vec(0, 0, -5), vec(0, 0, -1)}, {vec(0, -7, 0), vec(0, -1, 0)}, {vec(-3, 0, 0), vec(-1, 0, 0)},
		{vec(1<<20, 0, 1<<19), vec(2, 0, 1)}, {vec(-1<<20, -1<<20, -1<<20), vec(-1, -1, -1)}, {vec(6, 10, 15), vec(6, 10, 15)}, {vec(-4, -6, 0), vec(-2, -3, 0)},
		{vec(12, -18, 30), vec(2, -3, 5)}, {vec(0, 4, -6), vec(0, 2, -3)}, {vec(1048576, 1048575, 1), vec(1048576, 1048575, 1)}, {vec(6, 4, 9), vec(6, 4, 9)},
	} {
		r, e := sun.Reduced(x.v)
		expect.Result(t, "Reduced", r, e, x.r, api.OK)
	}
	for _, x := range wrongDirections() {
		r, e := sun.Reduced(x.x)
		expect.Result(t, "Reduced", r, e, api.Vector{}, x.e)
	}
	r := rand.New(rand.NewSource(1))
	for range 500 {
		v := random(r, 30)
		got, e := sun.Reduced(v)
		expect.Result(t, "Reduced", got, e, divided(v), api.OK)
	}
}

func TestSame(t *testing.T) {
	for _, x := range []struct {
		a, b api.Vector
		is   bool
	}{
		{vec(1, 2, 2), vec(2, 4, 4), true}, {vec(1, 2, 2), vec(1, 2, 2), true}, {vec(6, 9, -3), vec(4, 6, -2), true}, {vec(1<<20, 0, 0), vec(1, 0, 0), true},
		{vec(1, 2, 2), vec(-1, -2, -2), false}, {vec(1, 2, 2), vec(2, 4, 5), false}, {vec(1, 0, 0), vec(0, 1, 0), false}, {vec(1, 0, 0), vec(-7, 0, 0), false},
		{vec(1<<20, 1<<20-1, 1<<20), vec(1<<20, 1<<20, 1<<20), false}, {vec(1, 2, 2), vec(1, 2, -2), false},
	} {
		is, e := sun.Same(x.a, x.b)
		expect.Result(t, "Same", is, e, x.is, api.OK)
		is, e = sun.Same(x.b, x.a)
		expect.Result(t, "Same", is, e, x.is, api.OK)
	}
	for _, x := range wrongDirections() {
		is, e := sun.Same(x.x, vec(1, 0, 0))
		expect.Result(t, "Same of a wrong vector", is, e, false, x.e)
		is, e = sun.Same(vec(1, 0, 0), x.x)
		expect.Result(t, "Same of a wrong vector", is, e, false, x.e)
		is, e = sun.Same(x.x, x.x)
		expect.Result(t, "Same of wrong vectors", is, e, false, x.e)
	}
	is, e := sun.Same(vec(0, 0, 0), vec(0, 1<<20+1, 0))
	expect.Result(t, "Same of two errors", is, e, false, api.ErrZero)
	is, e = sun.Same(vec(0, 1<<20+1, 0), vec(0, 0, 0))
	expect.Result(t, "Same of two errors", is, e, false, api.ErrRange)
	r := rand.New(rand.NewSource(2))
	for range 3000 {
		a, b := random(r, 2), random(r, 2)
		is, e := sun.Same(a, b)
		expect.Result(t, "Same", is, e, cross(a, b) == api.Vector{} && dot(a, b) > 0, api.OK)
	}
}

func TestLength(t *testing.T) {
	for _, x := range []struct {
		v api.Vector
		n int
		e api.Errno
	}{
		{vec(1, 2, 2), 3, api.OK}, {vec(2, 4, 4), 6, api.OK}, {vec(0, 3, -4), 5, api.OK}, {vec(4096, 0, 0), 4096, api.OK}, {vec(0, 0, -1), 1, api.OK}, {vec(1365, 2730, 2730), 4095, api.OK},
		{vec(2048, 4096, 4096), 6144, api.OK}, {vec(4092, 4092, 2046), 6138, api.OK}, {vec(-4095, -4080, -720), 5825, api.ErrForm},
		{vec(1, 1, 1), 0, api.ErrForm}, {vec(4096, 4096, 4096), 0, api.ErrForm}, {vec(1, 1, 0), 0, api.ErrForm}, {vec(4096, 1, 0), 0, api.ErrForm}, {vec(4095, 4, 88), 0, api.ErrForm},
	} {
		n, e := sun.Length(x.v)
		if x.e != api.OK {
			x.n = 0
		}
		expect.Result(t, "Length", n, e, x.n, x.e)
	}
	for _, x := range wrongRays() {
		n, e := sun.Length(x.x)
		expect.Result(t, "Length", n, e, 0, x.e)
	}
}

// TestLengthOfSquares checks all small rays, and rays around which the greatest squares lie.
func TestLengthOfSquares(t *testing.T) {
	squares := map[int]int{}
	for n := range 7200 {
		squares[n*n] = n
	}
	check := func(v api.Vector) {
		n, e := sun.Length(v)
		wanted, is := squares[dot(v, v)]
		if !is {
			expect.Result(t, "Length", n, e, 0, api.ErrForm)
			return
		}
		expect.Result(t, "Length", n, e, wanted, api.OK)
	}
	for x := range 13 {
		for y := range 13 {
			for z := 1; z < 13; z++ {
				check(vec(x, -y, z))
				check(vec(4096-x, 4096-y, 4096-z))
			}
		}
	}
}

func TestWhole(t *testing.T) {
	for _, x := range []struct {
		l [4]int
		v api.Vector
		e api.Errno
	}{
		{[4]int{1, 1, 1, 0}, vec(1, 2, -2), api.OK}, {[4]int{0, 0, 0, 2}, vec(-4, 0, 0), api.OK}, {[4]int{1, 2, 3, 4}, vec(-20, 20, 10), api.OK}, {[4]int{1, 0, 0, 0}, vec(1, 0, 0), api.OK},
		{[4]int{0, 1, 0, 0}, vec(1, 0, 0), api.OK}, {[4]int{0, 0, 1, 0}, vec(-1, 0, 0), api.OK}, {[4]int{32, 32, 32, 32}, vec(0, 4096, 0), api.OK}, {[4]int{-32, 32, 32, 32}, vec(0, 0, 4096), api.OK},
		{[4]int{32, 32, 0, 0}, vec(2048, 0, 0), api.OK}, {[4]int{2, 0, 2, 0}, vec(0, 0, -8), api.OK}, {[4]int{-32, -32, -32, -32}, vec(0, 4096, 0), api.OK},
		{[4]int{}, api.Vector{}, api.ErrZero},
	} {
		v, e := sun.Whole(x.l)
		expect.Result(t, "Whole", v, e, x.v, x.e)
	}
	for _, n := range outside(32) {
		for i := range 4 {
			l := [4]int{}
			l[i] = n
			v, e := sun.Whole(l)
			expect.Result(t, "Whole", v, e, api.Vector{}, api.ErrRange)
		}
	}
}

func TestNormal(t *testing.T) {
	for _, x := range []struct{ a, b, n api.Vector }{
		{vec(0, 0, 1), vec(2, 1, 2), vec(2, 1, 5)}, {vec(0, 0, 7), vec(4, 2, 4), vec(2, 1, 5)}, {vec(3, 0, 4), vec(3, 0, 4), vec(3, 0, 4)}, {vec(1, 0, 0), vec(0, 1, 0), vec(1, 1, 0)},
		{vec(4000, 3000, 0), vec(1, 2, 2), vec(17, 19, 10)}, {vec(6, 8, 0), vec(3, 4, 0), vec(3, 4, 0)}, {vec(-1, -2, -2), vec(-2, -2, 1), vec(-3, -4, -1)},
		{vec(315, 1218, -470), vec(-2, -1, -2), vec(-1741, 2311, -4096)}, {vec(4096, 0, 0), vec(0, 4096, 0), vec(1, 1, 0)},
	} {
		n, e := sun.Normal(x.a, x.b)
		expect.Result(t, "Normal", n, e, x.n, api.OK)
		n, e = sun.Normal(x.b, x.a)
		expect.Result(t, "Normal", n, e, x.n, api.OK)
	}
}

func TestNormalWithErrors(t *testing.T) {
	some := vec(1, 0, 0)
	for _, x := range wrongRays() {
		n, e := sun.Normal(x.x, vec(1, 1, 1))
		expect.Result(t, "Normal of a wrong ray", n, e, api.Vector{}, x.e)
		n, e = sun.Normal(vec(1, 1, 1), x.x)
		expect.Result(t, "Normal of a wrong ray", n, e, api.Vector{}, x.e)
	}
	for _, x := range []struct {
		a, b api.Vector
		e    api.Errno
	}{
		{vec(0, 0, 0), vec(5000, 0, 0), api.ErrZero}, {vec(5000, 0, 0), vec(0, 0, 0), api.ErrRange},
		{vec(1, 1, 1), some, api.ErrForm}, {some, vec(1, 1, 0), api.ErrForm}, {vec(1, 1, 1), vec(-1, -1, -1), api.ErrForm}, {vec(4095, 4, 88), vec(0, 0, 1), api.ErrForm},
		{some, vec(-2, 0, 0), api.ErrZero}, {vec(1, 2, 2), vec(-2, -4, -4), api.ErrZero}, {vec(1, 2, 2), vec(-1, -2, -2), api.ErrZero}, {vec(0, -4096, 0), vec(0, 1, 0), api.ErrZero},
		{vec(41, -2624, 1208), vec(0, 0, 1), api.ErrLarge}, {vec(55, -2000, -628), vec(0, -1, 0), api.ErrLarge}, {vec(63, 4032, -64), vec(0, 1, 0), api.ErrLarge}, {vec(-159, 1018, -162), vec(2, 1, 2), api.ErrLarge},
	} {
		n, e := sun.Normal(x.a, x.b)
		expect.Result(t, "Normal", n, e, api.Vector{}, x.e)
	}
}

func TestReflected(t *testing.T) {
	for _, x := range []struct {
		d, n, r api.Vector
		e       api.Errno
	}{
		{vec(0, 0, 1), vec(2, 1, 5), vec(2, 1, 2), api.OK}, {vec(2, 1, 2), vec(2, 1, 5), vec(0, 0, 1), api.OK}, {vec(1, 2, 3), vec(0, 0, 7), vec(-1, -2, 3), api.OK}, {vec(1, 0, 0), vec(0, 1, 0), vec(-1, 0, 0), api.OK},
		{vec(2, 4, 6), vec(0, 0, -1), vec(-1, -2, 3), api.OK}, {vec(1, 1, 1), vec(1, 1, 1), vec(1, 1, 1), api.OK}, {vec(1, 0, 0), vec(1, 1, 0), vec(0, 1, 0), api.OK}, {vec(-3, -3, 0), vec(1, 0, 0), vec(-1, 1, 0), api.OK},
		{vec(4096, 1, 0), vec(0, 0, 1), vec(-4096, -1, 0), api.OK}, {vec(1, 0, 2), vec(45, 46, 1), vec(44, 2162, -4095), api.OK}, {vec(4096, 4096, 4096), vec(4096, 4096, -4096), vec(-1, -1, -5), api.OK},
		{vec(1, 0, 0), vec(4096, 1, 0), api.Vector{}, api.ErrLarge}, {vec(1, 0, 2), vec(5, 64, 3), api.Vector{}, api.ErrLarge}, {vec(1, 0, 2), vec(47, 44, 1), api.Vector{}, api.ErrLarge},
		{vec(0, 0, 0), vec(5000, 0, 0), api.Vector{}, api.ErrZero}, {vec(5000, 0, 0), vec(0, 0, 0), api.Vector{}, api.ErrRange},
	} {
		r, e := sun.Reflected(x.d, x.n)
		expect.Result(t, "Reflected", r, e, x.r, x.e)
	}
	for _, x := range wrongRays() {
		r, e := sun.Reflected(x.x, vec(1, 0, 0))
		expect.Result(t, "Reflected of a wrong ray", r, e, api.Vector{}, x.e)
		r, e = sun.Reflected(vec(1, 0, 0), x.x)
		expect.Result(t, "Reflected at a wrong ray", r, e, api.Vector{}, x.e)
	}
}

func TestCosine(t *testing.T) {
	for _, x := range []struct {
		a, b api.Vector
		sign int
		r    api.Ratio
	}{
		{vec(1, 2, 2), vec(2, 1, 2), 1, ratio(64, 81)}, {vec(1, 0, 0), vec(0, 5, 0), 0, ratio(0, 1)}, {vec(1, 1, 0), vec(-1, 0, 0), -1, ratio(1, 2)}, {vec(2, 0, 0), vec(3, 0, 0), 1, ratio(1, 1)},
		{vec(1, 2, 3), vec(-2, -4, -6), -1, ratio(1, 1)}, {vec(4096, 4096, 4096), vec(4096, 4096, 4095), 1, ratio(150970369, 150970371)},
		{vec(4096, 0, 4095), vec(0, 4096, 1), 1, ratio(16769025, 562812564791297)},
	} {
		for _, y := range [][2]api.Vector{{x.a, x.b}, {x.b, x.a}} {
			sign, r, e := sun.Cosine(y[0], y[1])
			expect.Result(t, "Cosine", r, e, x.r, api.OK)
			expect.Result(t, "the sign of Cosine", sign, e, x.sign, api.OK)
		}
	}
	for _, x := range wrongRays() {
		for _, y := range [][2]api.Vector{{x.x, vec(1, 0, 0)}, {vec(1, 0, 0), x.x}} {
			sign, r, e := sun.Cosine(y[0], y[1])
			expect.Result(t, "Cosine of a wrong ray", r, e, api.Ratio{}, x.e)
			expect.Result(t, "the sign of Cosine beside an error", sign, e, 0, x.e)
		}
	}
	_, _, e := sun.Cosine(vec(0, 0, 0), vec(math.MaxInt, 0, 0))
	expect.Err(t, "Cosine of two errors", e, api.ErrZero)
	_, _, e = sun.Cosine(vec(math.MaxInt, 0, 0), vec(0, 0, 0))
	expect.Err(t, "Cosine of two errors", e, api.ErrRange)
}

func TestCosineOfRandomRays(t *testing.T) {
	r := rand.New(rand.NewSource(3))
	for i := range 2000 {
		reach := []int{1, 3, 50, 4096}[i%4]
		a, b := random(r, reach), random(r, reach)
		sign, got, e := sun.Cosine(a, b)
		wanted := signed(a, b)
		expect.Err(t, "Cosine", e, api.OK)
		if sign != wanted.Sign() || frac(got.Num, got.Den).Cmp(wanted.Abs(wanted)) != 0 {
			t.Fatalf("Cosine %v %v: %d %v", a, b, sign, got)
		}
		if int64(got.Num) != wanted.Num().Int64() || int64(got.Den) != wanted.Denom().Int64() {
			t.Fatalf("Cosine %v %v: %v is not in lowest terms", a, b, got)
		}
	}
}
