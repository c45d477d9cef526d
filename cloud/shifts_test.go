package cloud_test

import (
	"math/rand"
	"testing"

	"spillage/api"
	"spillage/cloud"
	"spillage/expect"
	"spillage/light"
)

// P7.2

func TestDifference(t *testing.T) {
	dark, bright := flat(64, 64, 0), flat(64, 64, 1024)
	for _, x := range []struct {
		a, b   light.Map
		shift  api.Point
		sum, n int
		e      api.Errno
	}{
		{a(), b(), at(1, 1), 0, 6, api.OK}, {a(), b(), at(0, 0), 4096, 12, api.OK}, {a(), b(), at(0, 1), 2048, 8, api.OK}, {a(), b(), at(0, -1), 2048, 8, api.OK}, {a(), b(), at(-1, 1), 3072, 6, api.OK}, {a(), b(), at(1, 0), 4096, 9, api.OK}, {b(), a(), at(-1, -1), 0, 6, api.OK}, {b(), a(), at(1, 1), 2048, 6, api.OK},
		{a(), b(), at(3, 2), 1024, 1, api.OK}, {a(), b(), at(-3, 2), 0, 1, api.OK}, {a(), b(), at(3, -2), 0, 1, api.OK}, {a(), b(), at(-3, -2), 0, 1, api.OK}, {a(), b(), at(3, 0), 1024, 3, api.OK}, {a(), b(), at(0, 2), 2048, 4, api.OK},
		{a(), b(), at(4, 0), 0, 0, api.ErrNone}, {a(), b(), at(-4, 0), 0, 0, api.ErrNone}, {a(), b(), at(0, 3), 0, 0, api.ErrNone}, {a(), b(), at(0, -3), 0, 0, api.ErrNone}, {a(), b(), at(100000, 100000), 0, 0, api.ErrNone}, {a(), b(), at(-100000, 0), 0, 0, api.ErrNone}, {a(), b(), at(0, -100000), 0, 0, api.ErrNone}, {a(), b(), at(3, 3), 0, 0, api.ErrNone},
		{dark, bright, at(0, 0), 1 << 40, 4096, api.OK}, {bright, dark, at(63, -63), 1 << 28, 1, api.OK}, {bright, dark, at(64, 0), 0, 0, api.ErrNone}, {table(2, 1, 3, 5), table(2, 1, 4, 1), at(0, 0), 17, 2, api.OK}, {table(2, 1, 3, 5), table(2, 1, 4, 1), at(1, 0), 4, 1, api.OK}, {table(2, 1, 3, 5), table(2, 1, 4, 1), at(-1, 0), 1, 1, api.OK}, {flat(1, 1, minusZero()), flat(1, 1, 0), at(0, 0), 0, 1, api.OK},
	} {
		sum, n, e := cloud.Difference(x.a, x.b, x.shift)
		expect.Result(t, "Difference", [2]int{sum, n}, e, [2]int{x.sum, x.n}, x.e)
	}
}

// TestShift checks costs that are the same, too: of them the least sum of parts, the lesser Y, and then the lesser X decide.
func TestShift(t *testing.T) {
	dark, bright := flat(64, 64, 0), flat(64, 64, 1024)
	dot, stripes := drawn("00000", "00000", "00100", "00000", "00000"), drawn("1010", "1010", "1010")
	for _, x := range []struct {
		a, b        light.Map
		most, least int
		p           api.Point
		c, second   api.Ratio
		e, f        api.Errno
	}{
		{a(), b(), 1, 4, at(1, 1), ratio(0, 1), ratio(256, 1), api.OK, api.OK}, {a(), b(), 1, 6, at(1, 1), ratio(0, 1), ratio(256, 1), api.OK, api.OK}, {a(), b(), 1, 7, at(0, -1), ratio(256, 1), ratio(256, 1), api.OK, api.OK}, {a(), b(), 1, 9, at(0, 0), ratio(1024, 3), ratio(1024, 3), api.OK, api.OK}, {a(), b(), 1, 10, at(0, 0), ratio(1024, 3), api.Ratio{}, api.OK, api.ErrInfeasible}, {a(), b(), 1, 12, at(0, 0), ratio(1024, 3), api.Ratio{}, api.OK, api.ErrInfeasible}, {a(), b(), 8, 13, api.Point{}, api.Ratio{}, api.Ratio{}, api.ErrInfeasible, api.ErrInfeasible}, {a(), b(), 0, 4096, api.Point{}, api.Ratio{}, api.Ratio{}, api.ErrInfeasible, api.ErrInfeasible},
		{a(), b(), 0, 4, at(0, 0), ratio(1024, 3), api.Ratio{}, api.OK, api.ErrInfeasible}, {a(), b(), 8, 1, at(0, -2), ratio(0, 1), ratio(0, 1), api.OK, api.OK}, {b(), a(), 1, 4, at(-1, -1), ratio(0, 1), ratio(256, 1), api.OK, api.OK}, {b(), a(), 1, 7, at(0, -1), ratio(256, 1), ratio(256, 1), api.OK, api.OK}, {a(), a(), 8, 1, at(0, 0), ratio(0, 1), ratio(0, 1), api.OK, api.OK}, {flat(3, 3, 0), flat(3, 3, 0), 8, 1, at(0, 0), ratio(0, 1), ratio(0, 1), api.OK, api.OK},
		{dark, bright, 8, 1, at(0, 0), ratio(1<<28, 1), ratio(1<<28, 1), api.OK, api.OK}, {dark, bright, 8, 4096, at(0, 0), ratio(1<<28, 1), api.Ratio{}, api.OK, api.ErrInfeasible}, {drawn("1"), drawn("3"), 8, 1, at(0, 0), ratio(1024, 1), api.Ratio{}, api.OK, api.ErrInfeasible}, {drawn("12"), drawn("20"), 1, 1, at(-1, 0), ratio(0, 1), ratio(256, 1), api.OK, api.OK},
		{table(3, 1, 0, 0, 1), table(3, 1, 0, 0, 0), 1, 1, at(1, 0), ratio(0, 1), ratio(1, 3), api.OK, api.OK}, {table(3, 1, 0, 0, 1), table(3, 1, 0, 0, 0), 2, 1, at(1, 0), ratio(0, 1), ratio(0, 1), api.OK, api.OK}, {table(3, 1, 0, 1, 0), table(3, 1, 0, 0, 0), 1, 2, at(0, 0), ratio(1, 3), ratio(1, 2), api.OK, api.OK}, {table(3, 1, 1, 0, 0), table(3, 1, 0, 1, 1), 1, 2, at(-1, 0), ratio(1, 2), ratio(1, 2), api.OK, api.OK}, {table(3, 1, 1, 0, 0), table(3, 1, 1, 1, 1), 1, 2, at(1, 0), ratio(1, 2), ratio(2, 3), api.OK, api.OK},
		{dot, drawn("00000", "00100", "01010", "00100", "00000"), 2, 1, at(0, -1), ratio(192, 5), ratio(192, 5), api.OK, api.OK}, {dot, drawn("00000", "00000", "01010", "00100", "00000"), 2, 1, at(-1, 0), ratio(128, 5), ratio(128, 5), api.OK, api.OK}, {dot, drawn("00000", "00000", "00010", "00100", "00000"), 2, 1, at(1, 0), ratio(64, 5), ratio(64, 5), api.OK, api.OK}, {dot, drawn("00000", "00000", "00100", "00100", "00000"), 2, 1, at(0, 0), ratio(256, 25), ratio(64, 5), api.OK, api.OK},
		{stripes, drawn("0101", "0101", "0101"), 2, 1, at(-1, 0), ratio(0, 1), ratio(0, 1), api.OK, api.OK}, {stripes, stripes, 2, 1, at(0, 0), ratio(0, 1), ratio(0, 1), api.OK, api.OK}, {stripes, drawn("1010", "0000", "0000"), 2, 4, at(0, -2), ratio(0, 1), ratio(64, 1), api.OK, api.OK},
	} {
		p, c, e := cloud.Shift(x.a, x.b, x.most, x.least)
		if p != x.p || c != x.c || e != x.e {
			t.Errorf("Shift %v %v %d %d: %v, %v, error %d, want %v, %v, error %d", x.a, x.b, x.most, x.least, p, c, e, x.p, x.c, x.e)
		}
		second, f := cloud.Second(x.a, x.b, x.most, x.least)
		expect.Result(t, "Second", second, f, x.second, x.f)
	}
}

func TestShiftsOfRandomImages(t *testing.T) {
	rnd := rand.New(rand.NewSource(9))
	counts := map[string]int{}
	for range 6000 {
		width, height := between(rnd, 1, 6), between(rnd, 1, 6)
		most := pick(rnd, 1, 3, 16384)
		a, b := randomImage(rnd, width, height, most), randomImage(rnd, width, height, most)
		far, least := between(rnd, 0, 3), between(rnd, 1, width*height)
		shift := randomPoint(rnd, 6)
		sum, n, e := cloud.Difference(a, b, shift)
		wantedSum, wantedN := differenceOf(a, b, shift)
		expect.Result(t, "Difference", [2]int{sum, n}, e, [2]int{wantedSum, wantedN}, errorOf(wantedN == 0, api.ErrNone))
		l := costs(a, b, far, least)
		best, second := bestOf(l)
		p, c, e := cloud.Shift(a, b, far, least)
		if e != errorOf(len(l) == 0, api.ErrInfeasible) || p != best || e == api.OK && c != ratioOf(l[best]) {
			t.Fatalf("Shift %v %v %d %d: %v, %v, error %d, want %v, %v", a, b, far, least, p, c, e, best, l[best])
		}
		next, e := cloud.Second(a, b, far, least)
		if e != errorOf(second == nil, api.ErrInfeasible) || second != nil && next != ratioOf(second) {
			t.Fatalf("Second %v %v %d %d: %v, error %d, want %v", a, b, far, least, next, e, second)
		}
		switch {
		case second == nil:
			counts["alone"]++
		case c == next && best != api.Point{}:
			counts["as good"]++
		case c.Den > 1 && next.Den > 1:
			counts["broken"]++
		}
	}
	if counts["alone"] < 500 || counts["as good"] < 200 || counts["broken"] < 500 {
		t.Errorf("the counts are %v", counts)
	}
}

// errorOf returns an error if something is wrong.
func errorOf(wrong bool, e api.Errno) api.Errno {
	if wrong {
		return e
	}
	return api.OK
}
