package salt_test

import (
	"math/rand"
	"slices"
	"testing"

	"spillage/api"
	"spillage/expect"
	"spillage/salt"
)

// P8.2

// wantFlow checks what Turns and Rainflow return for a history.
func wantFlow(t *testing.T, l, turns []int, c []salt.Cycle, rest []int) {
	t.Helper()
	got, e := salt.Turns(l)
	expect.List(t, "Turns", got, e, turns, api.OK)
	gotCycles, gotRest, e := salt.Rainflow(l)
	expect.List(t, "the cycles of Rainflow", gotCycles, e, c, api.OK)
	expect.List(t, "the rest of Rainflow", gotRest, e, rest, api.OK)
}

func TestTurnsAndRainflow(t *testing.T) {
	for _, x := range []struct {
		l, turns []int
		c        []salt.Cycle
		rest     []int
	}{
		{ints(0, 5, 5, 3, 4, -1), ints(0, 5, 3, 4, -1), cycles(3, 4), ints(0, 5, -1)},
		{nil, nil, nil, nil}, {ints(7), ints(7), nil, ints(7)}, {ints(7, 7), ints(7), nil, ints(7)}, {ints(0, 0, 0, 0), ints(0), nil, ints(0)}, {ints(7, 8), ints(7, 8), nil, ints(7, 8)}, {ints(7, 7, 6, 6), ints(7, 6), nil, ints(7, 6)}, {ints(1, 2, 3, 3, 5), ints(1, 5), nil, ints(1, 5)}, {ints(5, 4, 4, 1, -7), ints(5, -7), nil, ints(5, -7)}, {ints(1, 3, 2), ints(1, 3, 2), nil, ints(1, 3, 2)}, {ints(3, 1, 1, 2), ints(3, 1, 2), nil, ints(3, 1, 2)}, {ints(3, 1, 1, 3), ints(3, 1, 3), nil, ints(3, 1, 3)}, {ints(1, 3, 3, 5, 5, 4, 4, 4), ints(1, 5, 4), nil, ints(1, 5, 4)},
		{ints(0, 4, 1, 4, 0), ints(0, 4, 1, 4, 0), cycles(4, 1), ints(0, 4, 0)}, {ints(0, 10, 2, 8, 4, 6, -5), ints(0, 10, 2, 8, 4, 6, -5), cycles(4, 6, 2, 8), ints(0, 10, -5)}, {ints(0, 1, -2, 3, -4), ints(0, 1, -2, 3, -4), nil, ints(0, 1, -2, 3, -4)}, {ints(5, -4, 3, -2, 1), ints(5, -4, 3, -2, 1), nil, ints(5, -4, 3, -2, 1)}, {ints(0, 1, 0, 1), ints(0, 1, 0, 1), cycles(1, 0), ints(0, 1)}, {ints(1, 0, 1, 0), ints(1, 0, 1, 0), cycles(0, 1), ints(1, 0)}, {ints(0, 1, 0, 1, 0, 1, 0), ints(0, 1, 0, 1, 0, 1, 0), cycles(1, 0, 1, 0), ints(0, 1, 0)}, {ints(0, 5, 0, 4), ints(0, 5, 0, 4), nil, ints(0, 5, 0, 4)}, {ints(1, 5, 0, 5), ints(1, 5, 0, 5), nil, ints(1, 5, 0, 5)}, {ints(1, 5, 1, 5), ints(1, 5, 1, 5), cycles(5, 1), ints(1, 5)}, {ints(1, 5, 1, 6), ints(1, 5, 1, 6), cycles(5, 1), ints(1, 6)}, {ints(0, 5, 1, 5), ints(0, 5, 1, 5), cycles(5, 1), ints(0, 5)}, {ints(5, 0, 4, 0), ints(5, 0, 4, 0), cycles(0, 4), ints(5, 0)}, {ints(5, 1, 4, 0), ints(5, 1, 4, 0), cycles(1, 4), ints(5, 0)}, {ints(5, 1, 6, 0), ints(5, 1, 6, 0), nil, ints(5, 1, 6, 0)}, {ints(5, 1, 4, 2), ints(5, 1, 4, 2), nil, ints(5, 1, 4, 2)},
		{ints(-100000, 100000, -100000, 100000), ints(-100000, 100000, -100000, 100000), cycles(100000, -100000), ints(-100000, 100000)}, {ints(0, 2, 1, 3, 1, 4, 0, 5), ints(0, 2, 1, 3, 1, 4, 0, 5), cycles(2, 1, 3, 1, 4, 0), ints(0, 5)}, {ints(0, 9, 1, 8, 2, 7, 3, 6, 4, 5, -1), ints(0, 9, 1, 8, 2, 7, 3, 6, 4, 5, -1), cycles(4, 5, 3, 6, 2, 7, 1, 8), ints(0, 9, -1)},
	} {
		wantFlow(t, x.l, x.turns, x.c, x.rest)
	}
}

// TestTheLongestHistories checks histories up to the limit.
func TestTheLongestHistories(t *testing.T) {
	up, saw := make([]int, 256), make([]int, 256)
	for i := range 256 {
		up[i], saw[i] = i, i%2
	}
	wantFlow(t, up, ints(0, 255), nil, ints(0, 255))
	wantFlow(t, make([]int, 256), ints(0), nil, ints(0))
	wantFlow(t, saw, saw, slices.Repeat(cycles(1, 0), 127), ints(0, 1))
}

func TestHistoriesOfRandomIntegers(t *testing.T) {
	rnd := rand.New(rand.NewSource(4))
	counts := map[string]int{}
	for range 20000 {
		l := randomHistory(rnd, rnd.Intn(pick(rnd, 6, 30, 257)), pick(rnd, 1, 3, 10, 100000))
		c, rest := rainflowOf(l)
		wantFlow(t, l, turnsOf(l), c, rest)
		switch {
		case len(c) > 20:
			counts["many cycles"]++
		case len(c) > 0:
			counts["few cycles"]++
		case len(rest) > 3:
			counts["a rest alone"]++
		}
	}
	if counts["many cycles"] < 2000 || counts["few cycles"] < 2000 || counts["a rest alone"] < 500 {
		t.Errorf("the counts are %v", counts)
	}
}

func TestCheckClasses(t *testing.T) {
	for _, l := range [][]salt.Class{classes(1, 10, 5, 200), classes(1, 0), classes(200000, 1000000), classes(1, 0, 2, 1), classes(1, 999999, 200000, 1000000), stairs(16), stairs(1)} {
		expect.Err(t, "CheckClasses", salt.CheckClasses(l), api.OK)
	}
}

// wantDamage checks what Counted and Damage return for right arguments.
func wantDamage(t *testing.T, c []salt.Cycle, rest []int, l []salt.Class, counts []int, damage int) {
	t.Helper()
	n, e := salt.Counted(c, l)
	expect.List(t, "Counted", n, e, counts, api.OK)
	sum, e := salt.Damage(c, rest, l)
	expect.Result(t, "Damage", sum, e, damage, api.OK)
}

func TestCountedAndDamage(t *testing.T) {
	shown := classes(1, 10, 5, 200)
	for _, x := range []struct {
		c      []salt.Cycle
		rest   []int
		l      []salt.Class
		counts []int
		damage int
	}{
		{cycles(3, 4), ints(0, 5, -1), shown, ints(1, 0), 420}, {cycles(3, 4, 9, 2, 0, 5, 7, 7), ints(0, 5, 5, 8), shown, ints(1, 2), 1030}, {nil, nil, shown, ints(0, 0), 0}, {nil, ints(4), shown, ints(0, 0), 0}, {nil, ints(4, 4), shown, ints(0, 0), 0}, {nil, ints(4, 5), shown, ints(0, 0), 10}, {nil, ints(5, 4), shown, ints(0, 0), 10}, {cycles(4, 5), nil, shown, ints(1, 0), 20}, {cycles(5, 4), nil, shown, ints(1, 0), 20}, {cycles(0, 4, 4, 0, 0, 5, 5, 0, 0, 6), nil, shown, ints(2, 3), 1240}, {cycles(1, 1, 0, 0), ints(0), shown, ints(0, 0), 0}, {cycles(0, 2, 0, 1), ints(0, 1, 3), classes(2, 7), ints(1), 21}, {cycles(0, 1), ints(0, 1), classes(1, 0), ints(1), 0},
		{cycles(-100000, 100000, 100000, -100000), ints(-100000, 100000, -100000), classes(199999, 5, 200000, 1000000), ints(0, 2), 6000000}, {cycles(-99999, 100000, 100000, -99999), ints(-100000, 99999), classes(199999, 5, 200000, 1000000), ints(2, 0), 25}, {slices.Repeat(cycles(0, 200, 0, 10), 128), make([]int, 256), stairs(16), append(make([]int, 9), 128, 0, 0, 0, 0, 0, 128), 2 * 128 * (15 + 9)}, {cycles(0, 16, 0, 17, 0, 15, 0, 1), nil, stairs(16), ints(1, 0, 0, 0, 0, 0, 0, 0, 0, 0, 0, 0, 0, 0, 1, 2), 2 * (15 + 15 + 14 + 0)},
		{slices.Repeat(cycles(100000, -100000), 256), slices.Repeat(ints(100000, -100000), 128), classes(1, 1000000), ints(256), 767000000},
	} {
		wantDamage(t, x.c, x.rest, x.l, x.counts, x.damage)
	}
}

func TestDamageOfRandomCycles(t *testing.T) {
	rnd := rand.New(rand.NewSource(5))
	most := 0
	for range 5000 {
		reach := pick(rnd, 3, 20, 100, 100000)
		ends := randomHistory(rnd, 2*rnd.Intn(20), reach)
		c, rest, l := cycles(ends...), randomHistory(rnd, rnd.Intn(10), reach), randomClasses(rnd, pick(rnd, reach, 20))
		wantDamage(t, c, rest, l, countedOf(c, l), damageOf(c, rest, l))
		most = max(most, damageOf(c, rest, l))
	}
	if most < 5000 {
		t.Errorf("the greatest damage is %d", most)
	}
}
