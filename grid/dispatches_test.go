package grid_test

import (
	"math/rand"
	"slices"
	"testing"

	"spillage/api"
	"spillage/expect"
	"spillage/grid"
)

// P9.2

func TestCheckOffers(t *testing.T) {
	for _, x := range []struct {
		p grid.Plant
		l []grid.Quarter
	}{
		{p(), day()}, {plant(0, 0, 0), nil}, {plant(60, 60, 30), slices.Repeat(hours(100000, 30), 8)}, {plant(60, 0, 0), slices.Repeat(hours(-100000, 0), 8)}, {plant(7, 7, 30), hours(0, 0)},
	} {
		expect.Err(t, "CheckOffers", grid.CheckOffers(x.p, x.l), api.OK)
	}
}

// wantTold checks what CheckDispatch and Levels return for a right dispatch.
func wantTold(t *testing.T, p grid.Plant, l []grid.Quarter, d []int, wanted grid.Told, levels ...int) {
	t.Helper()
	x, e := grid.CheckDispatch(p, l, d)
	expect.Result(t, "CheckDispatch", x, e, wanted, api.OK)
	got, e := grid.Levels(p, l, d)
	expect.List(t, "Levels", got, e, levels, api.OK)
}

func TestCheckDispatchAndLevels(t *testing.T) {
	for _, x := range []struct {
		p      grid.Plant
		l      []grid.Quarter
		d      []int
		told   grid.Told
		levels []int
	}{
		{p(), day(), ints(2, 4, 4), told(220, 0, 0), ints(2, 5, 4, 0)}, {p(), day(), ints(0, 4, 4), told(200, 1, 1), ints(2, 6, 5, 1)}, {p(), day(), ints(0, 0, 0), told(0, 6, 4), ints(2, 6, 6, 6)}, {p(), day(), ints(4, 4, 2), told(200, 0, 0), ints(2, 3, 2, 0)}, {p(), nil, nil, told(0, 2, 0), ints(2)}, {plant(0, 0, 0), nil, nil, told(0, 0, 0), ints(0)},
		{plant(0, 0, 5), hours(7, 5, -3, 9), ints(5, 5), told(20, 0, 4), ints(0, 0, 0)}, {plant(0, 0, 30), hours(100000, 30), ints(30), told(3000000, 0, 0), ints(0, 0)}, {plant(60, 60, 30), hours(-100000, 30), ints(30), told(-3000000, 60, 0), ints(60, 60)}, {plant(60, 60, 0), slices.Repeat(hours(5, 30), 8), make([]int, 8), told(0, 60, 240), slices.Repeat(ints(60), 9)}, {plant(10, 3, 30), hours(2, 0), ints(3), told(6, 0, 0), ints(3, 0)},
	} {
		wantTold(t, x.p, x.l, x.d, x.told, x.levels...)
	}
}

func TestRandomDispatches(t *testing.T) {
	rnd := rand.New(rand.NewSource(9))
	spilled := 0
	for range 5000 {
		p, l := randomPlant(rnd, pick(rnd, 3, 20, 60), pick(rnd, 3, 30)), randomDay(rnd, rnd.Intn(9), pick(rnd, 3, 100000), pick(rnd, 5, 30))
		d := randomDispatch(rnd, p, l)
		wanted, levels := toldOf(p, l, d)
		wantTold(t, p, l, d, wanted, levels...)
		if wanted.Spilled > 0 {
			spilled++
		}
		if len(l) == 0 {
			continue
		}
		// one unit more than there is, or than may be delivered
		i := rnd.Intn(len(l))
		most := min(p.Most, levels[i]+l[i].Heat)
		d[i] = most + 1
		e := api.ErrShort
		if most == p.Most {
			e = api.ErrRange
		}
		x, f := grid.CheckDispatch(p, l, d)
		expect.Result(t, "CheckDispatch of too much", x, f, grid.Told{}, e)
		none, f := grid.Levels(p, l, d)
		expect.List(t, "Levels of too much", none, f, nil, e)
	}
	if spilled < 1000 {
		t.Errorf("only %d dispatches spilled", spilled)
	}
}

// wantBest checks what Dispatch returns.
func wantBest(t *testing.T, p grid.Plant, l []grid.Quarter, wanted []int, result grid.Told) {
	t.Helper()
	d, x, e := grid.Dispatch(p, l)
	if !slices.Equal(d, wanted) || x != result || e != api.OK {
		t.Fatalf("Dispatch %v %v: %v, %v, error %d, want %v, %v", p, l, d, x, e, wanted, result)
	}
}

func TestDispatch(t *testing.T) {
	for _, x := range []struct {
		p    grid.Plant
		l    []grid.Quarter
		d    []int
		told grid.Told
	}{
		{p(), day(), ints(2, 4, 4), told(220, 0, 0)}, {p(), nil, nil, told(0, 2, 0)}, {plant(0, 0, 0), hours(5, 5), ints(0), told(0, 0, 5)}, {p(), hours(0, 1, -5, 1), ints(0, 0), told(0, 4, 0)}, {p(), hours(5, 0), ints(2), told(10, 0, 0)}, {p(), hours(5, 9), ints(4), told(20, 6, 1)},
		// what leaves the most
		{plant(9, 3, 4), hours(0, 2), ints(0), told(0, 5, 0)}, {plant(9, 3, 2), hours(4, 0, 0, 0), ints(2, 0), told(8, 1, 0)}, {plant(4, 4, 2), hours(0, 3, 6, 0), ints(0, 2), told(12, 2, 3)},
		// the first one of several: what is spilled does not count
		{plant(0, 0, 5), hours(0, 5), ints(0), told(0, 0, 5)}, {plant(4, 4, 5), hours(0, 5, 0, 2), ints(0, 0), told(0, 4, 7)}, {plant(10, 2, 2), hours(5, 0, 5, 0), ints(0, 2), told(10, 0, 0)}, {plant(10, 2, 1), hours(5, 0, 5, 0), ints(1, 1), told(10, 0, 0)}, {plant(10, 3, 2), hours(5, 0, 5, 0, 5, 0), ints(0, 1, 2), told(15, 0, 0)}, {plant(2, 2, 2), hours(3, 2, 3, 0), ints(2, 2), told(12, 0, 0)}, {plant(3, 2, 2), hours(3, 2, 3, 0), ints(2, 2), told(12, 0, 0)}, {plant(4, 2, 4), hours(3, 2, 3, 0), ints(0, 4), told(12, 0, 0)}, {plant(3, 2, 4), hours(0, 2, 3, 0), ints(0, 3), told(9, 0, 1)},
		// a loss is never taken, also where heat is spilled
		{plant(1, 1, 9), hours(-1, 5, 2, 0), ints(0, 1), told(2, 0, 5)}, {plant(5, 5, 5), hours(-1, 5, -1, 5), ints(0, 0), told(0, 5, 10)},
		// heat waits for the greatest price, as far as there is room
		{plant(3, 0, 9), hours(1, 5, 9, 0), ints(2, 3), told(29, 0, 0)}, {plant(3, 0, 2), hours(1, 5, 9, 0), ints(2, 2), told(20, 1, 0)}, {plant(60, 60, 30), slices.Repeat(hours(100000, 30), 8), slices.Repeat(ints(30), 8), told(24000000, 60, 0)}, {plant(60, 0, 30), slices.Repeat(hours(-100000, 30), 8), make([]int, 8), told(0, 60, 180)}, {plant(60, 60, 30), slices.Repeat(hours(1, 0), 8), ints(0, 0, 0, 0, 0, 0, 30, 30), told(60, 0, 0)},
	} {
		wantBest(t, x.p, x.l, x.d, x.told)
	}
}

func TestDispatchOfSmallPlants(t *testing.T) {
	rnd := rand.New(rand.NewSource(10))
	left := 0
	for range 4000 {
		p, l := randomPlant(rnd, 6, 4), randomDay(rnd, rnd.Intn(5), pick(rnd, 1, 3, 100), 5)
		d, x := bestOf(p, l)
		wantBest(t, p, l, d, x)
		if x.Left > 0 {
			left++
		}
	}
	if left < 500 {
		t.Errorf("only %d dispatches left something", left)
	}
}

func TestDispatchOfGreatPlants(t *testing.T) {
	rnd := rand.New(rand.NewSource(11))
	for range 300 {
		p, l := randomPlant(rnd, 60, 30), randomDay(rnd, between(rnd, 4, 8), pick(rnd, 2, 5, 100000), 30)
		d, x := backwardsOf(p, l)
		wantBest(t, p, l, d, x)
	}
}

func TestBound(t *testing.T) {
	for _, x := range []struct {
		p      grid.Plant
		l      []grid.Quarter
		values []int
		n      int
	}{
		{p(), day(), ints(10, 10, 10), 220}, {p(), day(), ints(0, 0, 0), 240}, {p(), day(), ints(10, 20, 20), 230}, {p(), day(), ints(20, 20, 10), 280}, {p(), day(), ints(0, 30, 0), 390}, {p(), nil, nil, 0}, {plant(60, 60, 30), nil, nil, 0}, {p(), hours(-5, 3), ints(0), 0}, {p(), hours(-5, 3), ints(2), 10}, {p(), hours(7, 3), ints(0), 28}, {p(), hours(7, 3), ints(7), 35}, {p(), hours(7, 3), ints(8), 40}, {plant(0, 0, 4), hours(7, 3, 9, 3), ints(7, 9), 48}, {plant(0, 0, 0), hours(7, 3, 9, 3), ints(0, 100000), 300000},
		{plant(60, 60, 30), slices.Repeat(hours(100000, 30), 8), make([]int, 8), 24000000}, {plant(60, 60, 30), slices.Repeat(hours(100000, 30), 8), slices.Repeat(ints(100000), 8), 30000000}, {plant(60, 60, 30), slices.Repeat(hours(100000, 0), 8), ints(0, 100000, 0, 100000, 0, 100000, 0, 100000), 36000000},
	} {
		n, e := grid.Bound(x.p, x.l, x.values)
		expect.Result(t, "Bound", n, e, x.n, api.OK)
	}
}

func TestBoundOfRandomValues(t *testing.T) {
	rnd := rand.New(rand.NewSource(12))
	for range 5000 {
		p, l := randomPlant(rnd, 60, 30), randomDay(rnd, rnd.Intn(9), pick(rnd, 10, 100000), 30)
		values := list(rnd, len(l), 0, pick(rnd, 10, 100000))
		n, e := grid.Bound(p, l, values)
		expect.Result(t, "Bound", n, e, boundOf(p, l, values), api.OK)
	}
}

// wantSettled checks what Settled returns.
func wantSettled(t *testing.T, l []grid.Quarter, offered, delivered []int, fine, bill int, lacking []grid.Shortfall) {
	t.Helper()
	n, s, e := grid.Settled(l, offered, delivered, fine)
	if n != bill || !slices.Equal(s, lacking) || e != api.OK {
		t.Errorf("Settled %v %v %v %d: %d, %v, error %d, want %d, %v", l, offered, delivered, fine, n, s, e, bill, lacking)
	}
}

func TestSettled(t *testing.T) {
	for _, x := range []struct {
		l                  []grid.Quarter
		offered, delivered []int
		fine, bill         int
		lacking            []grid.Shortfall
	}{
		{day(), ints(2, 4, 4), ints(2, 3, 4), 15, 175, short(1, 1)}, {day(), ints(2, 4, 4), ints(3, 4, 0), 15, 90, short(2, 4)}, {day(), ints(2, 4, 4), ints(2, 4, 4), 100000, 220, nil}, {day(), ints(2, 4, 4), ints(0, 0, 0), 7, -70, short(0, 2, 1, 4, 2, 4)}, {day(), ints(2, 4, 4), ints(0, 0, 0), 0, 0, short(0, 2, 1, 4, 2, 4)}, {day(), ints(0, 0, 0), ints(1, 1, 1), 9, 60, nil}, {day(), ints(5, 0, 0), ints(0, 9, 9), 9, 405, short(0, 5)}, {nil, nil, nil, 5, 0, nil}, {hours(-7, 30), ints(3), ints(2), 5, -19, short(0, 1)}, {hours(1, 0), ints(30), ints(30), 1, 30, nil},
		{slices.Repeat(hours(-100000, 0), 8), slices.Repeat(ints(30), 8), slices.Repeat(ints(29), 8), 100000, -24000000, short(0, 1, 1, 1, 2, 1, 3, 1, 4, 1, 5, 1, 6, 1, 7, 1)}, {slices.Repeat(hours(100000, 0), 8), make([]int, 8), slices.Repeat(ints(30), 8), 100000, 24000000, nil},
	} {
		wantSettled(t, x.l, x.offered, x.delivered, x.fine, x.bill, x.lacking)
	}
}

func TestSettledOfRandomDays(t *testing.T) {
	rnd := rand.New(rand.NewSource(13))
	for range 5000 {
		l := randomDay(rnd, rnd.Intn(9), 100000, 30)
		offered, delivered, fine := list(rnd, len(l), 0, 30), list(rnd, len(l), 0, 30), rnd.Intn(100001)
		bill, lacking := settledOf(l, offered, delivered, fine)
		wantSettled(t, l, offered, delivered, fine, bill, lacking)
	}
}
