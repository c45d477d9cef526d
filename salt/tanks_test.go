package salt_test

import (
	"math/rand"
	"slices"
	"testing"

	"spillage/api"
	"spillage/expect"
	"spillage/salt"
)

// P8.3

func TestCheckTank(t *testing.T) {
	for _, x := range []salt.Tank{
		shown(), tank(100), tank(1), tank(1, 1, 0), tank(1000000, 1000000, 1000000000), tank(100, 60, 0, 40, 40), tank(100, 60, 0, 40, 1), tank(30, 10, 200, 20, 800), tower(16), tank(100, 3, 5, 1, 2), tank(100, 2, 3, 3, 5), tank(100, 2, 500000000, 1, 500000000), tank(100, 1, 0, 1, 1000000000), tank(1000000, 500000, 499999999, 500000, 500000001), tank(1000000, 499999, 0, 500001, 1000000000), tank(1000000, 500001, 500000500, 499999, 499999500),
	} {
		expect.Err(t, "CheckTank", salt.CheckTank(x), api.OK)
	}
}

func TestLevelEnthalpyAndWarmth(t *testing.T) {
	for _, x := range []struct {
		t           salt.Tank
		level, heat int
		warmths     []api.Ratio
	}{
		{shown(), 30, 1000, []api.Ratio{ratio(20, 1), ratio(40, 1)}}, {tank(100), 0, 0, nil}, {tank(100, 7, 0), 7, 0, []api.Ratio{ratio(0, 1)}}, {tank(30, 30, 1000), 30, 1000, []api.Ratio{ratio(100, 3)}}, {tank(1000000, 999999, 1000, 1, 999999000), 1000000, 1000000000, []api.Ratio{ratio(1000, 999999), ratio(999999000, 1)}}, {tank(1, 1, 1000000000), 1, 1000000000, []api.Ratio{ratio(1000000000, 1)}}, {tank(100, 6, 4, 4, 6, 2, 5), 12, 15, []api.Ratio{ratio(2, 3), ratio(3, 2), ratio(5, 2)}},
	} {
		n, e := salt.Level(x.t)
		expect.Result(t, "Level", n, e, x.level, api.OK)
		n, e = salt.Enthalpy(x.t)
		expect.Result(t, "Enthalpy", n, e, x.heat, api.OK)
		for i, wanted := range x.warmths {
			w, e := salt.Warmth(x.t, i)
			expect.Result(t, "Warmth", w, e, wanted, api.OK)
		}
		for _, i := range expect.Outside(0, len(x.t.Layers)-1) {
			w, e := salt.Warmth(x.t, i)
			expect.Result(t, "Warmth of no layer", w, e, api.Ratio{}, api.ErrUnknown)
		}
	}
}

func TestCharged(t *testing.T) {
	for _, x := range []struct {
		t            salt.Tank
		amount, heat int
		y            salt.Tank
		e            api.Errno
	}{
		{shown(), 5, 150, tank(100, 10, 200, 5, 150, 20, 800), api.OK}, {shown(), 5, 200, tank(100, 10, 200, 25, 1000), api.OK}, {shown(), 5, 100, tank(100, 15, 300, 20, 800), api.OK}, {shown(), 5, 0, tank(100, 5, 0, 10, 200, 20, 800), api.OK}, {shown(), 5, 99, tank(100, 5, 99, 10, 200, 20, 800), api.OK}, {shown(), 5, 101, tank(100, 10, 200, 5, 101, 20, 800), api.OK}, {shown(), 5, 199, tank(100, 10, 200, 5, 199, 20, 800), api.OK}, {shown(), 5, 201, tank(100, 10, 200, 20, 800, 5, 201), api.OK}, {shown(), 70, 1400, tank(100, 80, 1600, 20, 800), api.OK}, {shown(), 70, 999999000, tank(100, 10, 200, 20, 800, 70, 999999000), api.OK},
		{tank(100), 100, 0, tank(100, 100, 0), api.OK}, {tank(100), 1, 1000000000, tank(100, 1, 1000000000), api.OK}, {tank(1), 1, 5, tank(1, 1, 5), api.OK}, {tank(100, 5, 0), 5, 0, tank(100, 10, 0), api.OK}, {tank(100, 3, 1, 3, 2), 6, 2, tank(100, 9, 3, 3, 2), api.OK}, {tank(1000000, 999998, 999999998), 1, 1, tank(1000000, 1, 1, 999998, 999999998), api.OK}, {tank(1000000, 499999, 499999500), 500000, 500000500, tank(1000000, 500000, 500000500, 499999, 499999500), api.OK}, {tank(1000000, 499999, 499999500), 499998, 499998500, tank(1000000, 499999, 499999500, 499998, 499998500), api.OK}, {tank(1000000, 499999, 499999500), 500001, 500000500, tank(1000000, 500001, 500000500, 499999, 499999500), api.OK},
		{shown(), 71, 0, salt.Tank{}, api.ErrLarge}, {shown(), 1000000, 1000000000, salt.Tank{}, api.ErrLarge}, {shown(), 1, 999999001, salt.Tank{}, api.ErrOver}, {shown(), 1, 1000000000, salt.Tank{}, api.ErrOver}, {tank(1), 2, 0, salt.Tank{}, api.ErrLarge}, {tank(30, 10, 200, 20, 800), 1, 20, salt.Tank{}, api.ErrLarge}, {tank(100, 1, 1000000000), 1, 1, salt.Tank{}, api.ErrOver},
		{tower(16), 1, 3, salt.Tank{}, api.ErrMany}, {tower(16), 3, 91, salt.Tank{}, api.ErrMany}, {tower(16), 84, 0, tank(100, append(ints(85, 0), flat(tower(16).Layers[1:])...)...), api.OK}, {tower(16), 2, 60, tank(100, append(flat(tower(15).Layers), 3, 90)...), api.OK}, {tower(15), 1, 3, tank(100, slices.Concat(flat(tower(2).Layers), ints(1, 3), flat(tower(15).Layers[2:]))...), api.OK},
	} {
		y, e := salt.Charged(x.t, x.amount, x.heat)
		wantTank(t, "Charged", y, e, x.y, x.e)
	}
}

// flat returns the amounts and heats of layers.
func flat(l []salt.Layer) []int {
	var out []int
	for _, x := range l {
		out = append(out, x.Amount, x.Heat)
	}
	return out
}

// wantDrawn checks what Drawn returns.
func wantDrawn(t *testing.T, x salt.Tank, amount int, top bool, y salt.Tank, heat int, wantedErr api.Errno) {
	t.Helper()
	got, n, e := salt.Drawn(x, amount, top)
	if !sameTank(got, y) || n != heat || e != wantedErr {
		t.Errorf("Drawn %v %d %v: %v, %d, error %d, want %v, %d, error %d", x, amount, top, got, n, e, y, heat, wantedErr)
	}
}

func TestDrawn(t *testing.T) {
	for _, x := range []struct {
		t      salt.Tank
		amount int
		top    bool
		y      salt.Tank
		heat   int
	}{
		{shown(), 25, true, tank(100, 5, 100), 900}, {shown(), 20, true, tank(100, 10, 200), 800}, {shown(), 19, true, tank(100, 10, 200, 1, 40), 760}, {shown(), 1, true, tank(100, 10, 200, 19, 760), 40}, {shown(), 29, true, tank(100, 1, 20), 980}, {shown(), 30, true, tank(100), 1000}, {shown(), 3, false, tank(100, 7, 140, 20, 800), 60}, {shown(), 10, false, tank(100, 20, 800), 200}, {shown(), 11, false, tank(100, 19, 760), 240}, {shown(), 30, false, tank(100), 1000},
		{tank(100, 3, 5, 1, 2), 1, false, tank(100, 3, 6), 1}, {tank(100, 3, 5, 1, 2), 2, false, tank(100, 2, 4), 3}, {tank(100, 3, 5, 1, 2), 1, true, tank(100, 3, 5), 2}, {tank(100, 3, 5, 1, 2), 2, true, tank(100, 2, 4), 3}, {tank(100, 3, 5, 2, 7), 1, true, tank(100, 3, 5, 1, 4), 3}, {tank(100, 3, 2, 3, 3, 3, 4), 2, false, tank(100, 4, 4, 3, 4), 1},
		{tank(100, 3, 1, 4, 2, 4, 3, 4, 5), 2, false, tank(100, 5, 3, 4, 3, 4, 5), 0}, {tank(100, 3, 2, 4, 3, 9, 7, 4, 4), 2, false, tank(100, 14, 11, 4, 4), 1}, {tank(100, 3, 8, 1, 3), 1, false, tank(100, 3, 9), 2}, {tank(1000000, 1000000, 1000000000), 999999, true, tank(1000000, 1, 1000), 999999000}, {tank(1000000, 999999, 1000000000), 500000, false, tank(1000000, 499999, 499999500), 500000500}, {tank(7, 7, 0), 3, true, tank(7, 4, 0), 0}, {tower(16), 15, true, tank(100, 1, 0), 240}, {tower(16), 15, false, tank(100, 1, 30), 210},
	} {
		wantDrawn(t, x.t, x.amount, x.top, x.y, x.heat, api.OK)
	}
	for _, top := range []bool{true, false} {
		for _, n := range ints(31, 100, 1000000) {
			wantDrawn(t, shown(), n, top, salt.Tank{}, 0, api.ErrShort)
		}
		wantDrawn(t, tank(100), 1, top, salt.Tank{}, 0, api.ErrShort)
	}
}

func TestMixed(t *testing.T) {
	for _, x := range []struct {
		t, y salt.Tank
		e    api.Errno
	}{
		{shown(), tank(100, 30, 1000), api.OK}, {tank(100, 7, 5), tank(100, 7, 5), api.OK}, {tower(16), tank(100, 16, 240), api.OK}, {tank(100, 1, 0, 1, 1000000000), tank(100, 2, 1000000000), api.OK}, {tank(2, 2, 0), tank(2, 2, 0), api.OK}, {tank(100), salt.Tank{}, api.ErrEmpty}, {tank(1), salt.Tank{}, api.ErrEmpty},
	} {
		y, e := salt.Mixed(x.t)
		wantTank(t, "Mixed", y, e, x.y, x.e)
	}
}

// wantCooled checks what Cooled returns for right arguments.
func wantCooled(t *testing.T, x salt.Tank, num, den int, y salt.Tank, lost int) {
	t.Helper()
	got, n, e := salt.Cooled(x, num, den)
	if !sameTank(got, y) || n != lost || e != api.OK {
		t.Errorf("Cooled %v %d / %d: %v, %d, error %d, want %v, %d", x, num, den, got, n, e, y, lost)
	}
}

func TestCooled(t *testing.T) {
	for _, x := range []struct {
		t        salt.Tank
		num, den int
		y        salt.Tank
		lost     int
	}{
		{shown(), 1, 100, tank(100, 10, 198, 20, 792), 10}, {shown(), 1, 1, tank(100, 30, 0), 1000}, {shown(), 0, 7, shown(), 0}, {shown(), 0, 1, shown(), 0}, {shown(), 2, 4, tank(100, 10, 100, 20, 400), 500}, {shown(), 999, 1000, tank(100, 30, 2), 998}, {shown(), 1000, 1000, tank(100, 30, 0), 1000}, {shown(), 1, 1000, tank(100, 10, 200, 20, 800), 0}, {shown(), 7, 1000, tank(100, 10, 199, 20, 795), 6}, {shown(), 1, 3, tank(100, 10, 134, 20, 534), 332}, {tank(100), 1, 2, tank(100), 0}, {tank(100, 5, 0), 1, 2, tank(100, 5, 0), 0},
		{tank(100, 1, 1, 1, 2), 1, 2, tank(100, 2, 2), 1}, {tank(100, 1, 1, 2, 3, 2, 4), 1, 2, tank(100, 5, 5), 3}, {tank(100, 3, 1, 5, 2), 1, 2, tank(100, 8, 2), 1}, {tank(1000000, 1000000, 1000000000), 999, 1000, tank(1000000, 1000000, 1000000), 999000000}, {tank(1, 1, 999999999), 1, 2, tank(1, 1, 500000000), 499999999}, {tower(4), 1, 2, tank(100, 1, 0, 1, 1, 1, 2, 1, 3), 6}, {tower(4), 3, 4, tank(100, 1, 0, 2, 2, 1, 2), 8},
	} {
		wantCooled(t, x.t, x.num, x.den, x.y, x.lost)
	}
}

func TestTanksOfRandomLayers(t *testing.T) {
	rnd := rand.New(rand.NewSource(6))
	counts := map[string]int{}
	for range 20000 {
		x := randomTank(rnd, pick(rnd, 3, 16), pick(rnd, 3, 10, 50))
		expect.Err(t, "CheckTank", salt.CheckTank(x), api.OK)
		level, _ := heldOf(x.Layers)
		amount, heat := between(rnd, 1, 20), rnd.Intn(200)
		if len(x.Layers) > 0 && rnd.Intn(2) == 0 {
			like := pick(rnd, x.Layers...)
			amount, heat = 2*like.Amount, 2*like.Heat
		}
		wanted, e := chargedOf(x, amount, heat), api.OK
		switch {
		case level+amount > x.Room:
			wanted, e = salt.Tank{}, api.ErrLarge
		case len(wanted.Layers) > 16:
			wanted, e = salt.Tank{}, api.ErrMany
		case len(wanted.Layers) == len(x.Layers):
			counts["as warm"]++
		}
		y, f := salt.Charged(x, amount, heat)
		wantTank(t, "Charged", y, f, wanted, e)
		counts[[]string{"charged", "not charged"}[min(int(e), 1)]]++
		if level > 0 {
			amount, top := between(rnd, 1, level), rnd.Intn(2) == 0
			left, heat := drawnOf(x, amount, top)
			wantDrawn(t, x, amount, top, left, heat, api.OK)
		}
		den := between(rnd, 1, pick(rnd, 5, 1000))
		num := between(rnd, 0, den)
		cooled, lost := cooledOf(x, num, den)
		wantCooled(t, x, num, den, cooled, lost)
		if len(cooled.Layers) > 1 && len(cooled.Layers) < len(x.Layers) {
			counts["put together"]++
		}
	}
	for _, what := range []string{"as warm", "charged", "not charged", "put together"} {
		if counts[what] < 1000 {
			t.Errorf("the counts are %v", counts)
		}
	}
}
