package salt_test

import (
	"math/rand"
	"slices"
	"testing"

	"spillage/api"
	"spillage/expect"
	"spillage/salt"
)

// P8.5, and P9 of the whole document

func TestHeatIsNeitherMadeNorLost(t *testing.T) {
	rnd := rand.New(rand.NewSource(11))
	runs := 0
	for range 5000 {
		x := randomRules(rnd)
		y := randomReceiver(rnd, x)
		light := 0
		l := lit(randomPlan(rnd, x, y.State, rnd.Intn(30)), func(x api.Interval) int {
			n := between(rnd, x.Low, x.High)
			light += n
			return n
		})
		after, b, _, e := salt.Run(x, y, l)
		if e != api.OK {
			continue
		}
		if after.Heat != y.Heat+light-b.Taken-b.Lost || b.Lost < 0 || b.Lost > x.Loss*len(l) {
			t.Fatalf("Run %v %v %v: from %d and the light %d to %d, with %v", x, y, l, y.Heat, light, after.Heat, b)
		}
		runs++
	}
	if runs < 1000 {
		t.Errorf("there were only %d runs", runs)
	}
}

// TestSureStepsFailForNoLight follows sure steps with lights of their intervals, and checks that both ends of the heat come.
func TestSureStepsFailForNoLight(t *testing.T) {
	rnd := rand.New(rand.NewSource(12))
	counts := map[bool]int{}
	for range 4000 {
		x := randomRules(rnd)
		y := randomReceiver(rnd, x)
		l := randomPlan(rnd, x, y.State, rnd.Intn(20))
		h, i, e := salt.Sure(x, y, l)
		low, _, first, e1 := salt.Run(x, y, lit(l, least))
		high, _, second, e2 := salt.Run(x, y, lit(l, greatest))
		counts[e == api.OK]++
		if e != api.OK {
			if (e1 != e || first != i) && (e2 != e || second != i) || e1 != api.OK && first < i || e2 != api.OK && second < i {
				t.Fatalf("Sure %v %v %v: index %d, error %d, but %d, %d by the least light, and %d, %d by the greatest", x, y, l, i, e, first, e1, second, e2)
			}
			continue
		}
		if h != to(low.Heat, high.Heat) || e1 != api.OK || e2 != api.OK {
			t.Fatalf("Sure %v %v %v: %v, but %v with error %d, and %v with error %d", x, y, l, h, low, e1, high, e2)
		}
		for range 20 {
			steps := lit(l, func(x api.Interval) int { return between(rnd, x.Low, x.High) })
			after, _, _, e := salt.Run(x, y, steps)
			if e != api.OK || after.Heat < h.Low || after.Heat > h.High {
				t.Fatalf("Sure %v %v %v: %v, but %v, error %d, by %v", x, y, l, h, after, e, steps)
			}
		}
	}
	if counts[true] < 1000 || counts[false] < 1000 {
		t.Errorf("the counts are %v", counts)
	}
}

func TestAReceiverStandsAsLongAsItsHold(t *testing.T) {
	rnd := rand.New(rand.NewSource(13))
	longest := 0
	for range 3000 {
		x := randomRules(rnd)
		x.Loss, x.Freeze = max(x.Loss, 1), max(x.Freeze, 1)
		x.Ready, x.Hot, x.Cold = x.Freeze+1, min(x.Freeze+1000/x.Capacity, 1000), x.Freeze
		y := at(pick(rnd, filled, running), between(rnd, x.Freeze*x.Capacity, (x.Hot+1)*x.Capacity-1))
		n, e := salt.Hold(x, y)
		expect.Result(t, "Hold", n, e, holdOf(x, y), api.OK)
		if n >= 256 {
			continue
		}
		after, b, _, e := salt.Run(x, y, slices.Repeat(steps(step(wait, 0, 0)), n))
		if after != at(y.State, y.Heat-n*x.Loss) || b != balance(0, n*x.Loss) || e != api.OK {
			t.Fatalf("%v %v: after its hold %d it is %v, error %d", x, y, n, after, e)
		}
		_, _, i, e := salt.Run(x, y, slices.Repeat(steps(step(wait, 0, 0)), n+1))
		expect.Result(t, "Run of one step more", i, e, n, api.ErrHeld)
		longest = max(longest, n)
	}
	if longest < 100 {
		t.Errorf("the longest hold is %d", longest)
	}
}

func TestEachTurnIsInACycleOrInTheRest(t *testing.T) {
	rnd := rand.New(rand.NewSource(14))
	for range 5000 {
		l := randomHistory(rnd, rnd.Intn(100), pick(rnd, 2, 10, 1000))
		turns, e := salt.Turns(l)
		expect.Err(t, "Turns", e, api.OK)
		again, e := salt.Turns(turns)
		expect.List(t, "the turns of turns", again, e, turns, api.OK)
		c, rest, e := salt.Rainflow(l)
		expect.Err(t, "Rainflow", e, api.OK)
		all := slices.Clone(rest)
		for _, x := range c {
			all = append(all, x.From, x.To)
		}
		expect.List(t, "the turns of cycles and the rest", slices.Sorted(slices.Values(all)), e, slices.Sorted(slices.Values(turns)), api.OK)
		same, none, e := salt.Rainflow(rest)
		expect.List(t, "the cycles of the rest", same, e, nil, api.OK)
		expect.List(t, "the rest of the rest", none, e, rest, api.OK)
	}
}

// TestHistoriesInParts counts a history in two parts, and in many.
func TestHistoriesInParts(t *testing.T) {
	rnd := rand.New(rand.NewSource(15))
	kept := 0
	for range 5000 {
		l := randomHistory(rnd, rnd.Intn(120), pick(rnd, 2, 10, 1000))
		c, rest, e := salt.Rainflow(l)
		expect.Err(t, "Rainflow", e, api.OK)
		var cycles []salt.Cycle
		var left []int
		for from := 0; from < len(l); {
			to := between(rnd, from, len(l))
			further, next, e := salt.Rainflow(slices.Concat(left, l[from:to]))
			expect.Err(t, "Rainflow of a part", e, api.OK)
			cycles, left, from = append(cycles, further...), next, to
			kept = max(kept, len(left))
		}
		expect.List(t, "the cycles of all parts", cycles, e, c, api.OK)
		expect.List(t, "the rest of all parts", left, e, rest, api.OK)
		classes := randomClasses(rnd, 20)
		whole, e := salt.Damage(c, rest, classes)
		expect.Err(t, "Damage", e, api.OK)
		parts, e := salt.Damage(cycles, left, classes)
		expect.Result(t, "the damage of all parts", parts, e, whole, api.OK)
	}
	if kept < 6 {
		t.Errorf("the longest rest has %d turns", kept)
	}
}

// contents returns the level and the heat of a tank that is right.
func contents(t *testing.T, x salt.Tank) [2]int {
	t.Helper()
	level, e := salt.Level(x)
	expect.Err(t, "Level", e, api.OK)
	heat, e := salt.Enthalpy(x)
	expect.Err(t, "Enthalpy", e, api.OK)
	return [2]int{level, heat}
}

// wantContents reports a tank whose room is another one, or whose level or heat is not that of another one and what came.
func wantContents(t *testing.T, what string, x salt.Tank, e api.Errno, before salt.Tank, amount, heat int) {
	t.Helper()
	wanted := contents(t, before)
	expect.Result(t, what, contents(t, x), e, [2]int{wanted[0] + amount, wanted[1] + heat}, api.OK)
	expect.Result(t, what+": the room", x.Room, e, before.Room, api.OK)
}

func TestATankChangesByWhatComesAndGoes(t *testing.T) {
	rnd := rand.New(rand.NewSource(16))
	counts := map[string]int{}
	x := tank(1000)
	for range 20000 {
		before, amount := x, between(rnd, 1, 200)
		switch level := contents(t, x)[0]; {
		case rnd.Intn(20) == 0 && level > 0:
			y, e := salt.Mixed(x)
			wantContents(t, "Mixed", y, e, before, 0, 0)
			x = y
		case rnd.Intn(4) == 0:
			y, lost, e := salt.Cooled(x, rnd.Intn(20), 100)
			wantContents(t, "Cooled", y, e, before, 0, -lost)
			x = y
			counts["cooled"]++
		case rnd.Intn(2) == 0 && amount <= level:
			y, heat, e := salt.Drawn(x, amount, rnd.Intn(2) == 0)
			wantContents(t, "Drawn", y, e, before, -amount, -heat)
			x = y
			counts["drawn"]++
		case level+amount <= 1000:
			heat := rnd.Intn(500 * amount)
			y, e := salt.Charged(x, amount, heat)
			if e == api.ErrMany && len(x.Layers) == 16 {
				continue
			}
			wantContents(t, "Charged", y, e, before, amount, heat)
			x = y
			counts["charged"]++
		}
	}
	for _, what := range []string{"cooled", "drawn", "charged"} {
		if counts[what] < 2000 {
			t.Errorf("the counts are %v", counts)
		}
	}
}

// TestTheTopIsNeverColder draws the same amount from both ends: since heat is an integer, rounding does not make the one from the top less.
func TestTheTopIsNeverColder(t *testing.T) {
	rnd := rand.New(rand.NewSource(17))
	same := 0
	for range 20000 {
		x := randomTank(rnd, 8, pick(rnd, 2, 9, 40))
		level := contents(t, x)[0]
		if level == 0 {
			continue
		}
		amount := between(rnd, 1, level)
		_, top, e := salt.Drawn(x, amount, true)
		expect.Err(t, "Drawn from the top", e, api.OK)
		_, bottom, e := salt.Drawn(x, amount, false)
		expect.Err(t, "Drawn from the bottom", e, api.OK)
		if top < bottom {
			t.Fatalf("%v: %d of it have the heat %d at the top, and %d at the bottom", x, amount, top, bottom)
		}
		if top == bottom {
			same++
		}
	}
	if same < 1000 {
		t.Errorf("only %d were as warm", same)
	}
}

// TestTanksStayInOrder checks that what is changed has each layer colder than the next one, and comes back from its text.
func TestTanksStayInOrder(t *testing.T) {
	rnd := rand.New(rand.NewSource(18))
	for range 5000 {
		x := randomTank(rnd, 12, pick(rnd, 3, 10, 1000))
		var changed []salt.Tank
		keep := func(y salt.Tank, e api.Errno) {
			if e == api.OK {
				changed = append(changed, y)
			}
		}
		amount := between(rnd, 1, 20)
		keep(salt.Charged(x, amount, rnd.Intn(300)))
		keep(salt.Mixed(x))
		for _, top := range []bool{true, false} {
			y, _, e := salt.Drawn(x, amount, top)
			keep(y, e)
		}
		y, _, e := salt.Cooled(x, rnd.Intn(11), 10)
		keep(y, e)
		for _, y := range changed {
			expect.Err(t, "CheckTank", salt.CheckTank(y), api.OK)
			s, e := salt.Print(y)
			expect.Err(t, "Print", e, api.OK)
			wantParsed(t, s, y, 0, api.OK)
		}
	}
}
