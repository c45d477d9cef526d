package sun_test

import (
	"math/rand"
	"slices"
	"testing"

	"spillage/api"
	"spillage/expect"
	"spillage/sun"
)

// P2.4

// steps returns air of as many steps as pairs of From and Lift.
func steps(l ...[2]int) []sun.Step {
	var out []sun.Step
	for _, x := range l {
		out = append(out, sun.Step{From: x[0], Lift: x[1]})
	}
	return out
}

// randomAir returns air whose steps are between steepnesses of small rays.
func randomAir(r *rand.Rand) []sun.Step {
	var l []sun.Step
	from := -200 + r.Intn(60)
	for range r.Intn(17) {
		l = append(l, sun.Step{From: from, Lift: r.Intn(17)})
		from += 1 + r.Intn(40)
	}
	return l
}

func TestCheckAir(t *testing.T) {
	most := make([]sun.Step, 16)
	for i := range most {
		most[i] = sun.Step{From: i - 8, Lift: i}
	}
	for _, l := range [][]sun.Step{nil, {}, air(), most, steps([2]int{-100000, 0}, [2]int{100000, 16}), steps([2]int{5, 16}), steps([2]int{-1, 3}, [2]int{0, 3}, [2]int{1, 3})} {
		expect.Err(t, "CheckAir", sun.CheckAir(l), api.OK)
	}
	for _, x := range wrongAirs() {
		if e := sun.CheckAir(x.x); e != x.e {
			t.Errorf("CheckAir %.200v: error %d, want %d", x.x, e, x.e)
		}
	}
}

func TestBent(t *testing.T) {
	three := steps([2]int{0, 1}, [2]int{10, 2}, [2]int{20, 3})
	for _, x := range []struct {
		l    []sun.Step
		v, b api.Vector
	}{
		{air(), vec(4, 0, 1), vec(8, 0, 3)}, {air(), vec(1, 0, 1), vec(1, 0, 1)}, {air(), vec(0, -4, 1), vec(0, -8, 3)}, {air(), vec(1, 1, 0), vec(4, 4, 1)}, {air(), vec(0, 0, 5), vec(0, 0, 1)},
		{air(), vec(0, 0, -5), vec(0, 0, -1)}, {air(), vec(4, 0, -1), vec(4, 0, -1)}, {air(), vec(1, 1, 2), vec(1, 1, 2)}, {air(), vec(-3, 1, 3), vec(-6, 2, 7)}, {air(), vec(-1, 0, 0), vec(-8, 0, 1)},
		{nil, vec(2, 4, 6), vec(1, 2, 3)}, {steps([2]int{-100000, 16}), vec(1, 0, -1), vec(4, 0, -3)}, {steps([2]int{-100000, 16}), vec(1, 0, -1500), vec(4, 0, -5999)},
		{steps([2]int{-100000, 16}), vec(1, 0, -4096), vec(1, 0, -4096)}, {steps([2]int{-64, 16}), vec(1, 0, -1), vec(4, 0, -3)}, {steps([2]int{-63, 16}), vec(1, 0, -1), vec(1, 0, -1)},
		{steps([2]int{21, 16}), vec(3, 0, 1), vec(12, 0, 7)}, {steps([2]int{22, 16}), vec(3, 0, 1), vec(3, 0, 1)}, {steps([2]int{-21, 16}), vec(3, 0, -1), vec(3, 0, -1)}, {steps([2]int{-22, 16}), vec(3, 0, -1), vec(12, 0, -1)},
		{three, vec(64, 0, 10), vec(16, 0, 3)}, {three, vec(64, 0, 9), vec(32, 0, 5)}, {three, vec(-32, -32, 20), vec(-32, -32, 23)}, {three, vec(0, 0, 20), vec(0, 0, 1)},
		{steps([2]int{0, 16}), vec(0, 0, 4096), vec(0, 0, 1)}, {steps([2]int{-100000, 16}), vec(0, 0, -4096), vec(0, 0, -1)}, {steps([2]int{0, 1}), vec(4096, 4096, 4095), vec(4096, 4096, 4223)},
		{steps([2]int{-100000, 16}), vec(4096, -4096, -4096), vec(2, -2, -1)}, {steps([2]int{100000, 16}), vec(1, 0, 4096), vec(4, 0, 16385)},
	} {
		b, e := sun.Bent(x.l, x.v)
		expect.Result(t, "Bent", b, e, x.b, api.OK)
	}
}

func TestUnbent(t *testing.T) {
	// Each step lifts by less than the one before it, so that three directions come together.
	falling := steps([2]int{0, 16}, [2]int{8, 8}, [2]int{16, 0})
	rising := steps([2]int{0, 1}, [2]int{8, 16})
	for _, x := range []struct {
		l []sun.Step
		v api.Vector
		r []api.Vector
	}{
		{air(), vec(8, 0, 3), []api.Vector{vec(4, 0, 1)}}, {air(), vec(16, 0, 17), []api.Vector{vec(16, 0, 15), vec(16, 0, 17)}}, {air(), vec(8, 0, 1), []api.Vector{vec(1, 0, 0)}}, {air(), vec(16, 0, 1), nil},
		{air(), vec(4, 0, -1), []api.Vector{vec(4, 0, -1)}}, {air(), vec(0, 0, 7), []api.Vector{vec(0, 0, 1)}}, {air(), vec(0, 0, -7), []api.Vector{vec(0, 0, -1)}}, {air(), vec(0, -16, 34), []api.Vector{vec(0, -8, 17)}},
		{nil, vec(4, 8, 12), []api.Vector{vec(1, 2, 3)}}, {nil, vec(0, 0, 3), []api.Vector{vec(0, 0, 1)}},
		{falling, vec(4, 0, 1), []api.Vector{vec(1, 0, 0), vec(8, 0, 1), vec(4, 0, 1)}}, {falling, vec(-64, 0, 20), []api.Vector{vec(-16, 0, 1), vec(-16, 0, 3), vec(-16, 0, 5)}},
		{falling, vec(64, 0, 24), []api.Vector{vec(8, 0, 3)}}, {falling, vec(64, 0, 23), []api.Vector{vec(64, 0, 7), vec(64, 0, 15), vec(64, 0, 23)}}, {falling, vec(64, 0, 15), nil}, {falling, vec(64, 0, -1), []api.Vector{vec(64, 0, -1)}},
		{rising, vec(64, 0, 9), nil}, {rising, vec(64, 0, 8), []api.Vector{vec(64, 0, 7)}}, {rising, vec(64, 0, 1), []api.Vector{vec(1, 0, 0)}}, {rising, vec(64, 0, 0), nil}, {rising, vec(64, 0, 23), nil}, {rising, vec(64, 0, 24), []api.Vector{vec(8, 0, 1)}},
		{steps([2]int{-100000, 16}), vec(4096, 4095, -4096), []api.Vector{vec(16384, 16380, -24575)}},
	} {
		l, e := sun.Unbent(x.l, x.v)
		expect.List(t, "Unbent", l, e, x.r, api.OK)
	}
}

func TestBentAndUnbentWithErrors(t *testing.T) {
	for _, x := range wrongAirs() {
		b, e := sun.Bent(x.x, vec(1, 0, 0))
		expect.Result(t, "Bent by wrong air", b, e, api.Vector{}, x.e)
		_, e = sun.Bent(x.x, vec(0, 0, 0))
		expect.Err(t, "Bent of two errors", e, x.e)
		l, e := sun.Unbent(x.x, vec(1, 0, 0))
		expect.List(t, "Unbent by wrong air", l, e, nil, x.e)
		_, e = sun.Unbent(x.x, vec(0, 0, 0))
		expect.Err(t, "Unbent of two errors", e, x.e)
	}
	for _, x := range wrongRays() {
		b, e := sun.Bent(air(), x.x)
		expect.Result(t, "Bent of a wrong ray", b, e, api.Vector{}, x.e)
		l, e := sun.Unbent(nil, x.x)
		expect.List(t, "Unbent of a wrong ray", l, e, nil, x.e)
	}
}

// liftOf returns the lift of a ray, and the place of its step (-1 without one), by steepnesses that are fractions.
func liftOf(l []sun.Step, v api.Vector) (int, int) {
	steepness := frac(64*v.Z, max(v.X, -v.X)+max(v.Y, -v.Y))
	lift, place := 0, -1
	for i, x := range l {
		if steepness != nil && steepness.Cmp(frac(x.From, 1)) >= 0 {
			lift, place = x.Lift, i
		}
	}
	return lift, place
}

// bentBy returns a direction with a lift, not reduced.
func bentBy(v api.Vector, lift int) api.Vector {
	return vec(64*v.X, 64*v.Y, 64*v.Z+lift*(max(v.X, -v.X)+max(v.Y, -v.Y)))
}

func TestBentOfRandomRays(t *testing.T) {
	r := rand.New(rand.NewSource(11))
	for i := range 4000 {
		l, v := randomAir(r), random(r, []int{2, 9, 60}[i%3])
		lift, _ := liftOf(l, v)
		b, e := sun.Bent(l, v)
		expect.Result(t, "Bent", b, e, divided(bentBy(v, lift)), api.OK)
	}
}

// TestUnbentIsAll checks that each direction of Unbent is bent to the ray, by its own step, and that no other one is: it would be one of the directions that some lift leads to the ray.
func TestUnbentIsAll(t *testing.T) {
	r := rand.New(rand.NewSource(12))
	found := 0
	for i := range 4000 {
		l, v := randomAir(r), random(r, []int{2, 9, 60}[i%3])
		got, e := sun.Unbent(l, v)
		expect.Err(t, "Unbent", e, api.OK)
		before := -2
		for _, u := range got {
			lift, place := liftOf(l, u)
			if divided(bentBy(u, lift)) != divided(v) || divided(u) != u || place <= before {
				t.Fatalf("Unbent %v %v: %v", l, v, got)
			}
			before = place
		}
		found += len(got)
		for lift := range 17 {
			u := divided(bentBy(v, -lift))
			if has, _ := liftOf(l, u); has == lift && !slices.Contains(got, u) {
				t.Fatalf("Unbent %v %v: %v without %v", l, v, got, u)
			}
		}
	}
	if found < 3000 {
		t.Fatalf("only %d directions were found", found)
	}
}
