package field_test

import (
	"math/big"
	"math/rand"
	"slices"
	"testing"

	"spillage/api"
	"spillage/expect"
	"spillage/field"
)

// P4.2

// steep is a mirror with numbers at the limits.
func steep() field.Mirror {
	return field.Mirror{Name: "Abcdefghij_lmnopqrstuvw9", Centre: vec(-4096, 4096, 4096), U: vec(64, -64, 64), V: vec(64, 64, -64)}
}

func rightMirrors() []field.Mirror {
	return mirrors(a(), b(), c(), steep(),
		field.Mirror{Name: "x", U: vec(1, 0, 0), V: vec(0, -1, 0)}, field.Mirror{Name: "x", U: vec(64, 64, 64), V: vec(64, 64, 63)}, field.Mirror{Name: "x", U: vec(0, 0, 1), V: vec(1, 0, 0)},
		field.Mirror{Name: "x", U: vec(0, 1, 0), V: vec(0, 3, 1)}, field.Mirror{Name: "x", Centre: vec(4096, -4096, -4096), U: vec(1, 2, 3), V: vec(-2, -4, 6)},
	)
}

func TestCheckMirror(t *testing.T) {
	for _, m := range rightMirrors() {
		expect.Err(t, "CheckMirror", field.CheckMirror(m), api.OK)
	}
	for _, x := range wrongMirrors() {
		if e := field.CheckMirror(x.x); e != x.e {
			t.Errorf("CheckMirror %v: error %d, want %d", x.x, e, x.e)
		}
	}
}

func TestCheckMirrors(t *testing.T) {
	for _, l := range [][]field.Mirror{nil, {}, mirrors(a()), mirrors(a(), b(), c()), mirrors(a(), named("A", a()), named("aa", a())), row(64)} {
		expect.Err(t, "CheckMirrors", field.CheckMirrors(l), api.OK)
	}
	for _, x := range wrongFields() {
		if e := field.CheckMirrors(x.x); e != x.e {
			t.Errorf("CheckMirrors %.200v: error %d, want %d", x.x, e, x.e)
		}
	}
}

func TestCornersAndNormal(t *testing.T) {
	for _, x := range []struct {
		m       field.Mirror
		corners [4]api.Vector
		normal  api.Vector
	}{
		{a(), [4]api.Vector{vec(-4, -4, 10), vec(4, -4, 10), vec(4, 4, 10), vec(-4, 4, 10)}, vec(0, 0, 16)},
		{c(), [4]api.Vector{vec(26, -4, 10), vec(34, -4, 10), vec(34, 4, 10), vec(26, 4, 10)}, vec(0, 0, 16)},
		{field.Mirror{Name: "x", Centre: vec(100, 200, 300), U: vec(1, 2, 3), V: vec(40, 50, 60)}, [4]api.Vector{vec(59, 148, 237), vec(61, 152, 243), vec(141, 252, 363), vec(139, 248, 357)}, vec(-30, 60, -30)},
		{steep(), [4]api.Vector{vec(-4224, 4096, 4096), vec(-4096, 3968, 4224), vec(-3968, 4096, 4096), vec(-4096, 4224, 3968)}, vec(0, 8192, 8192)},
	} {
		corners, e := field.Corners(x.m)
		expect.Result(t, "Corners", corners, e, x.corners, api.OK)
		normal, e := field.Normal(x.m)
		expect.Result(t, "Normal", normal, e, x.normal, api.OK)
	}
	for _, m := range rightMirrors() {
		corners, e := field.Corners(m)
		expect.Result(t, "Corners", corners, e, [4]api.Vector{plus(m.Centre, minus(m.U), minus(m.V)), plus(m.Centre, m.U, minus(m.V)), plus(m.Centre, m.U, m.V), plus(m.Centre, minus(m.U), m.V)}, api.OK)
		normal, e := field.Normal(m)
		expect.Result(t, "Normal", normal, e, cross(m.U, m.V), api.OK)
	}
	for _, x := range wrongMirrors() {
		corners, e := field.Corners(x.x)
		expect.Result(t, "Corners of no mirror", corners, e, [4]api.Vector{}, x.e)
		normal, e := field.Normal(x.x)
		expect.Result(t, "Normal of no mirror", normal, e, api.Vector{}, x.e)
	}
}

// wantCosine checks the three results of Cosine.
func wantCosine(t *testing.T, m field.Mirror, d api.Vector, sign int, square api.Ratio, wanted api.Errno) {
	t.Helper()
	s, c, e := field.Cosine(m, d)
	if s != sign || c != square || e != wanted {
		t.Errorf("Cosine %v %v: %d, %v, error %d, want %d, %v, error %d", m, d, s, c, e, sign, square, wanted)
	}
}

func TestCosine(t *testing.T) {
	for _, x := range []struct {
		m      field.Mirror
		d      api.Vector
		sign   int
		square api.Ratio
	}{
		{a(), vec(0, 3, 4), 1, ratio(16, 25)}, {a(), vec(0, 3, -4), -1, ratio(16, 25)}, {a(), vec(0, 0, -7), -1, ratio(1, 1)}, {a(), vec(0, 0, 1024), 1, ratio(1, 1)}, {a(), vec(5, 0, 0), 0, ratio(0, 1)}, {a(), vec(-1024, 1024, 0), 0, ratio(0, 1)}, {a(), vec(1, 1, 1), 1, ratio(1, 3)},
		{steep(), vec(1024, 1024, 1024), 1, ratio(2, 3)}, {steep(), vec(-1024, -1024, -1024), -1, ratio(2, 3)}, {steep(), vec(0, 1024, 1023), 1, ratio(4190209, 4190210)},
		{field.Mirror{Name: "x", U: vec(64, -63, 0), V: vec(1, 63, 64)}, vec(1023, 1021, -1024), -1, ratio(78125400000512, 78130017443845)},
	} {
		wantCosine(t, x.m, x.d, x.sign, x.square, api.OK)
	}
	for _, x := range wrongMirrors() {
		wantCosine(t, x.x, vec(0, 0, 1), 0, api.Ratio{}, x.e)
		wantCosine(t, x.x, vec(0, 0, 0), 0, api.Ratio{}, x.e)
	}
	for _, x := range wrongWays(1024) {
		wantCosine(t, a(), x.x, 0, api.Ratio{}, x.e)
	}
}

func TestCosineOfRandomMirrors(t *testing.T) {
	r := rand.New(rand.NewSource(55))
	for i := range 5000 {
		m, d := randomMirror(r, "x", 9, []int{2, 64}[i%2]), randomWay(r, []int{2, 1024}[i%2])
		n := cross(m.U, m.V)
		size := new(big.Int).Mul(big.NewInt(int64(dot(n, n))), big.NewInt(int64(dot(d, d))))
		square := new(big.Rat).SetFrac(new(big.Int).Exp(big.NewInt(int64(dot(n, d))), big.NewInt(2), nil), size)
		sign := big.NewInt(int64(dot(n, d))).Sign()
		wantCosine(t, m, d, sign, ratio(int(square.Num().Int64()), int(square.Denom().Int64())), api.OK)
	}
}

func TestShadow(t *testing.T) {
	down, thin, wall := a(), a(), a()
	down.V, thin.V = vec(0, -4, 0), vec(0, 0, 4)
	wall.U, wall.V = vec(0, 4, 0), vec(0, 0, 4)
	for _, x := range []struct {
		m   field.Mirror
		sun api.Vector
		p   []api.Point
	}{
		{a(), vec(1, 0, 2), points(-18, -8, -2, -8, -2, 8, -18, 8)}, {a(), vec(0, 0, 1), points(-4, -4, 4, -4, 4, 4, -4, 4)}, {a(), vec(0, 0, 2), points(-8, -8, 8, -8, 8, 8, -8, 8)}, {a(), vec(-1, 2, 1), points(6, -24, 14, -24, 14, -16, 6, -16)},
		{down, vec(0, 0, 1), points(-4, 4, -4, -4, 4, -4, 4, 4)}, {wall, vec(1, 0, 1), points(-6, -4, -6, 4, -14, 4, -14, -4)}, {wall, vec(-1, 0, 1), points(6, -4, 14, -4, 14, 4, 6, 4)},
		{steep(), vec(1024, -1024, 1), points(-4198528, 4198400, -4067328, 4067456, -4198272, 4198400, -4329472, 4329344)},
	} {
		p, e := field.Shadow(x.m, x.sun)
		expect.List(t, "Shadow", p, e, x.p, api.OK)
	}
	for _, x := range []struct {
		m   field.Mirror
		sun api.Vector
		e   api.Errno
	}{
		{a(), vec(1, 0, 0), api.ErrRule}, {a(), vec(1, 0, -1), api.ErrRule}, {a(), vec(0, 0, -1024), api.ErrRule}, {thin, vec(1, 0, 0), api.ErrRule}, {thin, vec(0, 0, -1), api.ErrRule},
		{thin, vec(0, 0, 1), api.ErrSingular}, {thin, vec(5, 0, 1), api.ErrSingular}, {wall, vec(0, 7, 3), api.ErrSingular}, {field.Mirror{Name: "x", U: vec(1, 2, 3), V: vec(0, 1, 1)}, vec(1, 3, 4), api.ErrSingular}, {field.Mirror{Name: "x", U: vec(1, 2, 3), V: vec(5, 1, 1)}, vec(4, 8, 12), api.ErrSingular},
	} {
		p, e := field.Shadow(x.m, x.sun)
		expect.List(t, "Shadow that is none", p, e, nil, x.e)
	}
	for _, x := range wrongMirrors() {
		for _, sun := range []api.Vector{vec(0, 0, 1), vec(0, 0, 0), vec(0, 0, -1)} {
			p, e := field.Shadow(x.x, sun)
			expect.List(t, "Shadow of no mirror", p, e, nil, x.e)
		}
	}
	for _, x := range wrongWays(1024) {
		p, e := field.Shadow(a(), x.x)
		expect.List(t, "Shadow by a wrong sun", p, e, nil, x.e)
	}
}

// TestShadowOfRandomMirrors checks shadows by the side that the sun sees: seen from the front, the corners go round counterclockwise.
func TestShadowOfRandomMirrors(t *testing.T) {
	r := rand.New(rand.NewSource(56))
	counts := map[int]int{}
	for i := range 5000 {
		m, sun := randomMirror(r, "x", []int{9, 4096}[i%2], []int{3, 64}[i%2]), randomVector(r, []int{3, 1024}[i%2])
		sun.Z = between(r, 1, []int{3, 1024}[i%2])
		var wanted []api.Point
		for _, x := range []api.Vector{plus(m.Centre, minus(m.U), minus(m.V)), plus(m.Centre, m.U, minus(m.V)), plus(m.Centre, m.U, m.V), plus(m.Centre, minus(m.U), m.V)} {
			wanted = append(wanted, at(x.X*sun.Z-x.Z*sun.X, x.Y*sun.Z-x.Z*sun.Y))
		}
		e := api.OK
		seen := dot(cross(m.U, m.V), sun)
		switch {
		case seen == 0:
			wanted, e = nil, api.ErrSingular
		case seen < 0:
			slices.Reverse(wanted[1:])
		}
		counts[min(max(seen, -1), 1)]++
		p, f := field.Shadow(m, sun)
		expect.List(t, "Shadow", p, f, wanted, e)
	}
	for n := -1; n <= 1; n++ {
		if counts[n] < 50 {
			t.Errorf("only %d shadows from the side %d", counts[n], n)
		}
	}
}

func TestFacets(t *testing.T) {
	for _, x := range []struct {
		m field.Mirror
		k int
		l []api.Vector
	}{
		{a(), 1, []api.Vector{vec(0, 0, 10)}}, {a(), 2, []api.Vector{vec(-4, -4, 20), vec(4, -4, 20), vec(-4, 4, 20), vec(4, 4, 20)}},
		{field.Mirror{Name: "x", Centre: vec(100, 0, -5), U: vec(1, 2, 0), V: vec(0, 0, 10)}, 3, []api.Vector{vec(298, -4, -35), vec(300, 0, -35), vec(302, 4, -35), vec(298, -4, -15), vec(300, 0, -15), vec(302, 4, -15), vec(298, -4, 5), vec(300, 0, 5), vec(302, 4, 5)}},
	} {
		l, e := field.Facets(x.m, x.k)
		expect.List(t, "Facets", l, e, x.l, api.OK)
	}
	for _, m := range rightMirrors() {
		for k := 1; k <= 8; k++ {
			l, e := field.Facets(m, k)
			expect.List(t, "Facets", l, e, centresOf(m, k), api.OK)
		}
	}
	for _, x := range wrongMirrors() {
		l, e := field.Facets(x.x, 2)
		expect.List(t, "Facets of no mirror", l, e, nil, x.e)
		_, e = field.Facets(x.x, 0)
		expect.Err(t, "Facets of two errors", e, x.e)
	}
	for _, k := range expect.Outside(1, 8) {
		l, e := field.Facets(a(), k)
		expect.List(t, "Facets of a wrong number", l, e, nil, api.ErrRange)
	}
}
