package grid_test

import (
	"math/rand"
	"slices"
	"testing"

	"spillage/api"
	"spillage/expect"
	"spillage/grid"
)

// P9.3

// four returns four stops in a ring, with their rounds of 10, 23 and 23.
func four() [][]int { return distances(4, 1, 9, 2, 3, 9, 4) }

func TestCheckStops(t *testing.T) {
	for _, d := range [][][]int{stops(), four(), {{0}}, apart(2, 0), apart(2, 10000), apart(7, 10000), apart(7, 0), distances(3, 0, 10000, 5)} {
		expect.Err(t, "CheckStops", grid.CheckStops(d), api.OK)
	}
}

func TestLength(t *testing.T) {
	for _, x := range []struct {
		d     [][]int
		round []int
		n     int
	}{
		{stops(), ints(0, 2, 1), 13}, {stops(), ints(0, 1, 2), 13}, {four(), ints(0, 1, 2, 3), 10}, {four(), ints(0, 3, 2, 1), 10}, {four(), ints(0, 2, 1, 3), 23}, {four(), ints(0, 1, 3, 2), 23}, {four(), ints(0, 3, 1, 2), 23}, {four(), ints(0, 2, 3, 1), 23}, {[][]int{{0}}, ints(0), 0}, {apart(2, 7), ints(0, 1), 14}, {apart(7, 10000), ints(0, 6, 5, 4, 3, 2, 1), 70000}, {apart(7, 0), ints(0, 1, 2, 3, 4, 5, 6), 0},
	} {
		n, e := grid.Length(x.d, x.round)
		expect.Result(t, "Length", n, e, x.n, api.OK)
	}
}

// wantRoute checks what Route returns.
func wantRoute(t *testing.T, d [][]int, round []int, length int) {
	t.Helper()
	l, n, e := grid.Route(d)
	if !slices.Equal(l, round) || n != length || e != api.OK {
		t.Errorf("Route %v: %v, %d, error %d, want %v, %d", d, l, n, e, round, length)
	}
}

func TestRoute(t *testing.T) {
	for _, x := range []struct {
		d     [][]int
		round []int
		n     int
	}{
		{stops(), ints(0, 1, 2), 13}, {four(), ints(0, 1, 2, 3), 10}, {[][]int{{0}}, ints(0), 0}, {apart(2, 7), ints(0, 1), 14}, {apart(2, 0), ints(0, 1), 0}, {apart(7, 10000), ints(0, 1, 2, 3, 4, 5, 6), 70000}, {apart(5, 0), ints(0, 1, 2, 3, 4), 0},
		// the ring 0, 2, 1, 3; the ring 0, 3, 1, 4, 2 with far ones beside it, which also goes back
		{distances(4, 9, 1, 1, 1, 1, 9), ints(0, 2, 1, 3), 4}, {distances(5, 9, 1, 1, 9, 9, 1, 1, 9, 1, 9), ints(0, 2, 4, 1, 3), 5},
		// as short as another one, though it begins with a longer way
		{distances(4, 5, 1, 5, 5, 5, 1), ints(0, 1, 3, 2), 12}, {distances(4, 5, 1, 5, 1, 5, 9), ints(0, 2, 1, 3), 12}, {distances(4, 1, 1, 1, 9, 5, 4), ints(0, 1, 3, 2), 11},
		// longer than the short bound
		{distances(4, 1, 10, 10, 10, 10, 1), ints(0, 1, 2, 3), 22}, {distances(6, 1, 1, 50, 50, 50, 1, 50, 50, 50, 50, 50, 50, 1, 1, 1), ints(0, 1, 2, 3, 4, 5), 104},
	} {
		wantRoute(t, x.d, x.round, x.n)
	}
}

func TestRouteOfRandomStops(t *testing.T) {
	rnd := rand.New(rand.NewSource(14))
	tight, loose := 0, 0
	for range 1500 {
		d := randomStops(rnd, between(rnd, 1, 7), pick(rnd, 1, 2, 5, 30, 10000))
		round, length := routeOf(d)
		wantRoute(t, d, round, length)
		n, e := grid.Short(d)
		expect.Result(t, "Short", n, e, shortOf(d), api.OK)
		if n == length {
			tight++
		} else {
			loose++
		}
		other := randomRound(rnd, len(d))
		n, e = grid.Length(d, other)
		expect.Result(t, "Length", n, e, lengthOf(d, other), api.OK)
	}
	if tight < 300 || loose < 300 {
		t.Errorf("%d bounds are as long as the shortest round, and %d are not", tight, loose)
	}
}

func TestShort(t *testing.T) {
	for _, x := range []struct {
		d [][]int
		n int
	}{
		{stops(), 13}, {four(), 10}, {[][]int{{0}}, 0}, {apart(2, 7), 14}, {apart(2, 0), 0}, {apart(3, 7), 21}, {apart(7, 10000), 70000}, {apart(7, 0), 0},
		// the sums of 11, 11, 11 and 11; of 2, 2 and 2; of 2, 2, 2 and 3, rounded up; of 1, 1, 1 and 1; and so on
		{distances(4, 1, 10, 10, 10, 10, 1), 22}, {distances(3, 1, 1, 1), 3}, {distances(4, 1, 1, 2, 1, 2, 1), 5}, {distances(4, 0, 1, 1, 1, 2, 0), 2}, {distances(4, 1, 1, 1, 1, 1, 2), 4}, {distances(3, 0, 0, 1), 1}, {distances(4, 0, 0, 0, 0, 1, 1), 1},
	} {
		n, e := grid.Short(x.d)
		expect.Result(t, "Short", n, e, x.n, api.OK)
	}
}

// wantSoiled checks what Soiled returns.
func wantSoiled(t *testing.T, soil []int, rate int, washed [][]int, wanted []int, lost int) {
	t.Helper()
	l, n, e := grid.Soiled(soil, rate, washed)
	if !slices.Equal(l, wanted) || n != lost || e != api.OK {
		t.Errorf("Soiled %v %d %v: %v, %d, error %d, want %v, %d", soil, rate, washed, l, n, e, wanted, lost)
	}
}

func TestSoiled(t *testing.T) {
	for _, x := range []struct {
		soil   []int
		rate   int
		washed [][]int
		after  []int
		lost   int
	}{
		{ints(5, 0), 2, [][]int{{}, {0}}, ints(2, 4), 7}, {ints(9999), 2, [][]int{{}, {}}, ints(10000), 19999}, {ints(5, 0), 2, nil, ints(5, 0), 0}, {nil, 2, [][]int{{}, {}}, nil, 0}, {nil, 0, nil, nil, 0}, {ints(5, 7), 0, [][]int{{}, {1}, {}}, ints(5, 0), 22}, {ints(5, 7), 3, [][]int{{0, 1}}, ints(3, 3), 0}, {ints(5, 7), 3, [][]int{{1, 0, 1, 1}}, ints(3, 3), 0}, {ints(5, 7), 3, [][]int{{1}, {0}, {1}}, ints(6, 3), 5 + 3 + 3}, {ints(10000), 10000, [][]int{{}, {0}, {}}, ints(10000), 20000}, {ints(0), 10000, [][]int{{}}, ints(10000), 0}, {ints(9998), 2, [][]int{{}}, ints(10000), 9998}, {ints(9998), 1, [][]int{{}}, ints(9999), 9998}, {ints(1, 2, 3), 1, [][]int{{2}, nil}, ints(3, 4, 2), 9},
		{slices.Repeat(ints(10000), 256), 10000, make([][]int, 365), slices.Repeat(ints(10000), 256), 934400000}, {make([]int, 256), 0, make([][]int, 365), make([]int, 256), 0}, {ints(3), 1, [][]int{make([]int, 256)}, ints(1), 0},
	} {
		wantSoiled(t, x.soil, x.rate, x.washed, x.after, x.lost)
	}
}

// randomDays returns days on which some of n mirrors are washed.
func randomDays(r *rand.Rand, days, n int) [][]int {
	var l [][]int
	for range days {
		l = append(l, list(r, r.Intn(1+min(n, 4)), 0, n-1))
	}
	return l
}

func TestSoiledOfRandomDays(t *testing.T) {
	rnd := rand.New(rand.NewSource(15))
	for range 2000 {
		most := pick(rnd, 10, 10000)
		soil, rate := list(rnd, rnd.Intn(8), 0, most), rnd.Intn(most+1)
		washed := randomDays(rnd, rnd.Intn(12), len(soil))
		after, lost := soiledOf(soil, rate, washed)
		wantSoiled(t, soil, rate, washed, after, lost)
	}
}
