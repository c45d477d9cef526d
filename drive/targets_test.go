package drive_test

import (
	"math"
	"math/rand"
	"slices"
	"testing"

	"spillage/api"
	"spillage/drive"
	"spillage/expect"
)

// P3.3

const far = 1 << 32

// task is what Inverted asks for.
type task struct {
	a      drive.Axis
	s      drive.State
	m      []drive.Band
	target api.Interval
}

// easy is a task without an error, which the count 5 hits at once.
func easy() task { return task{short(), state(5, 5, 5), five(), at(110, 130)} }

// wrongTasks are tasks with one error, and with that and all later ones.
func wrongTasks() []wrong[task] {
	var l []wrong[task]
	for _, x := range wrongStates() {
		l = append(l, wrong[task]{task{x.x.a, x.x.s, five(), at(110, 130)}, x.e}, wrong[task]{task{x.x.a, x.x.s, nil, at(1, 0)}, x.e})
	}
	for _, x := range wrongModels() {
		l = append(l, wrong[task]{task{short(), state(5, 5, 5), x.x, at(110, 130)}, x.e}, wrong[task]{task{short(), state(5, 5, 5), x.x, at(1-far, far+1)}, x.e})
	}
	for _, x := range wrongIntervals(-far, far) {
		l = append(l, wrong[task]{task{short(), state(5, 5, 5), five(), x.x}, x.e})
	}
	return l
}

func TestWithin(t *testing.T) {
	for _, x := range []struct {
		m      []drive.Band
		counts api.Interval
		places api.Interval
	}{
		{five(), at(4, 5), at(120, 127)}, {five(), at(4, 4), at(120, 122)}, {five(), at(-5, -4), at(75, 82)}, {five(), at(-5, 4), at(75, 122)}, {five(), at(0, 0), at(100, 102)},
		{model(band(-2, 10, 11)), at(4, 5), at(0, 3)}, {model(band(-2, 10, 11)), at(-5, 4), at(2, 21)}, {model(band(0, 10, 11)), at(-1000, 1000), at(10, 11)},
		{model(band(-2, 10, 11), band(3, 0, 1)), at(4, 5), at(0, 16)}, {model(band(-2, 10, 11), band(3, 0, 1)), at(-5, -4), at(-15, 21)}, {model(band(-2, 10, 11), band(3, 0, 1)), at(-4, 5), at(-12, 19)}, {model(band(1, 0, 0), band(2, 50, 51), band(3, 5, 5)), at(1, 2), at(1, 55)},
		{model(band(-1000, -2000000, 2000000), band(1000, -2000000, 2000000)), at(-1000, 1000), at(-3000000, 3000000)}, {model(band(1000, 2000000, 2000000)), at(1000, 1000), at(3000000, 3000000)},
	} {
		places, e := drive.Within(x.m, x.counts)
		expect.Result(t, "Within", places, e, x.places, api.OK)
	}
	for _, x := range wrongModels() {
		places, e := drive.Within(x.x, at(0, 0))
		expect.Result(t, "Within a wrong model", places, e, api.Interval{}, x.e)
		places, e = drive.Within(x.x, at(2000, 0))
		expect.Result(t, "Within, with two errors", places, e, api.Interval{}, x.e)
	}
	for _, x := range wrongIntervals(-1000, 1000) {
		places, e := drive.Within(five(), x.x)
		expect.Result(t, "Within, for wrong counts", places, e, api.Interval{}, x.e)
	}
}

func TestWithinPairByPair(t *testing.T) {
	r := rand.New(rand.NewSource(33))
	for range 2000 {
		m, counts := randomModel(r), interval(r, -9, 9)
		var all []int
		for _, pair := range pairsOf(m) {
			for n := counts.Low; n <= counts.High; n++ {
				all = append(all, pair[1]+pair[0]*n)
			}
		}
		places, e := drive.Within(m, counts)
		expect.Result(t, "Within", places, e, at(slices.Min(all), slices.Max(all)), api.OK)
	}
}

func TestCheckInverted(t *testing.T) {
	known := state(5, 5, 5)
	for _, x := range []struct {
		s      drive.State
		target api.Interval
		motor  int
		places api.Interval
	}{
		{known, at(110, 130), 5, at(125, 127)}, {known, at(125, 127), 5, at(125, 127)}, {known, at(125, 127), 8, at(125, 127)}, {known, at(-far, far), 9, at(130, 132)}, {known, at(140, 143), 11, at(140, 142)}, {known, at(115, 118), 3, at(115, 117)}, {known, at(0, 2), -20, at(0, 2)}, {known, at(185, 187), 20, at(185, 187)},
		{state(5, 2, 5), at(-far, far), 5, at(110, 127)}, {state(5, 2, 5), at(-far, far), 7, at(120, 127)}, {state(5, 2, 5), at(-far, far), 4, at(110, 122)}, {state(5, 2, 5), at(125, 127), 8, at(125, 127)}, {state(-20, -23, -21), at(-15, -3), -20, at(-15, -3)},
	} {
		places, e := drive.CheckInverted(short(), x.s, five(), x.target, x.motor)
		expect.Result(t, "CheckInverted", places, e, x.places, api.OK)
	}
	for _, x := range []struct {
		target api.Interval
		motor  int
	}{{at(110, 126), 5}, {at(126, 130), 5}, {at(126, 126), 5}, {at(0, 124), 5}, {at(128, 200), 5}, {at(140, 143), 12}, {at(140, 143), 10}, {at(-far, -far), 0}, {at(far, far), 0}} {
		places, e := drive.CheckInverted(short(), known, five(), x.target, x.motor)
		expect.Result(t, "CheckInverted of a miss", places, e, api.Interval{}, api.ErrProof)
	}
	for _, n := range expect.Outside(-20, 20) {
		places, e := drive.CheckInverted(short(), known, five(), at(-far, far), n)
		expect.Result(t, "CheckInverted of a wrong count", places, e, api.Interval{}, api.ErrRange)
	}
	for _, x := range wrongTasks() {
		for _, motor := range []int{5, 21} {
			places, e := drive.CheckInverted(x.x.a, x.x.s, x.x.m, x.x.target, motor)
			expect.Result(t, "CheckInverted of a wrong task", places, e, api.Interval{}, x.e)
		}
	}
}

func TestInverted(t *testing.T) {
	known, wide := state(5, 5, 5), state(5, 2, 5)
	none := axis(-20, 20, 0)
	for _, x := range []struct {
		x task
		n int
	}{
		{easy(), 5}, {task{short(), known, five(), at(140, 143)}, 11}, {task{short(), known, five(), at(115, 118)}, 3}, {task{short(), known, five(), at(-far, far)}, 5}, {task{short(), known, five(), at(125, 127)}, 5}, {task{short(), known, five(), at(0, 2)}, -20}, {task{short(), known, five(), at(185, 187)}, 20}, {task{short(), known, five(), at(-far, 121)}, 3}, {task{short(), known, five(), at(130, far)}, 9},
		// the mirror is at 5 only after a step of 3 up, or of any of 3 and more down
		{task{short(), wide, five(), at(125, 127)}, 8}, {task{short(), wide, five(), at(110, 112)}, 2}, {task{short(), wide, five(), at(110, 127)}, 5}, {task{short(), wide, five(), at(110, 122)}, 4}, {task{short(), wide, five(), at(115, 127)}, 6},
		// a gain of 0 hits by each count, or by none
		{task{short(), known, model(band(0, 7, 9)), at(7, 9)}, 5},
		{task{none, known, model(band(-1, 0, 0), band(1, 0, 0)), at(-far, far)}, 5}, {task{none, state(0, 0, 0), model(band(3, 0, 0)), at(1, 4)}, 1}, {task{none, state(0, 0, 0), model(band(-3, 0, 0)), at(1, 4)}, -1}, {task{none, known, model(band(1, 0, 0)), at(3, 3)}, 3}, {task{none, known, model(band(1, 0, 0)), at(7, 7)}, 7},
		{task{axis(-20, 5, 0), known, model(band(1, 0, 0)), at(-20, -20)}, -20}, {task{axis(5, 20, 0), known, model(band(1, 0, 0)), at(20, 20)}, 20}, {task{axis(5, 5, 0), known, five(), at(125, 127)}, 5},
		{task{axis(-1000, 1000, 50), state(-1000, -1050, -1050), model(band(1000, 2000000, 2000000)), at(950000, 950000)}, -1000}, {task{axis(-1000, 1000, 0), state(-1000, -1000, -1000), model(band(1000, 2000000, 2000000)), at(3000000, 3000000)}, 1000}, {task{axis(-1000, 1000, 0), state(1000, 1000, 1000), model(band(1000, -2000000, -2000000)), at(-3000000, -3000000)}, -1000},
	} {
		n, e := drive.Inverted(x.x.a, x.x.s, x.x.m, x.x.target)
		expect.Result(t, "Inverted", n, e, x.n, api.OK)
	}
}

func TestInvertedOfAWideMirror(t *testing.T) {
	a, wide, same := axis(-20, 20, 4), state(0, -4, 0), model(band(1, 0, 0))
	for _, x := range []struct {
		m      []drive.Band
		target api.Interval
		n      int
		e      api.Errno
	}{
		{same, at(-4, 0), 0, api.OK}, {same, at(-3, 3), 1, api.OK}, {same, at(-4, -1), -1, api.OK}, {same, at(-4, -4), -4, api.OK}, {same, at(-3, 0), 1, api.OK}, {same, at(0, 0), 4, api.OK}, {same, at(-5, -5), -5, api.OK}, {same, at(-3, -1), 0, api.ErrInfeasible}, {same, at(1, 1), 5, api.OK}, {model(band(0, 0, 0), band(1, 0, 0)), at(-2, 0), 2, api.OK}, {model(band(0, 0, 0), band(1, 0, 0)), at(-5, -1), 0, api.ErrInfeasible},
	} {
		n, e := drive.Inverted(a, wide, x.m, x.target)
		expect.Result(t, "Inverted of a wide mirror", n, e, x.n, x.e)
	}
}

func TestInvertedWithErrors(t *testing.T) {
	known := state(5, 5, 5)
	for _, x := range []task{
		{short(), known, five(), at(140, 141)}, {short(), known, five(), at(-far, -far)}, {short(), known, five(), at(far, far)}, {short(), known, five(), at(190, 1000)}, {short(), known, five(), at(-100, 0)}, {short(), known, model(band(0, 7, 9)), at(8, 9)}, {short(), known, model(band(0, 7, 9)), at(7, 8)}, {short(), known, model(band(0, 0, 0), band(1, 1000, 1000)), at(0, 100)}, {axis(5, 5, 3), state(5, 2, 5), five(), at(125, 127)}, {short(), state(5, 2, 5), five(), at(115, 122)},
	} {
		n, e := drive.Inverted(x.a, x.s, x.m, x.target)
		expect.Result(t, "Inverted of a target that is missed", n, e, 0, api.ErrInfeasible)
	}
	for _, x := range wrongTasks() {
		n, e := drive.Inverted(x.x.a, x.x.s, x.x.m, x.x.target)
		expect.Result(t, "Inverted of a wrong task", n, e, 0, x.e)
	}
}

// TestInvertedCountByCount asks for each count, each pair and each place of the mirror.
func TestInvertedCountByCount(t *testing.T) {
	r := rand.New(rand.NewSource(34))
	found := map[api.Errno]int{}
	for range 3000 {
		a, s := randomSeat(r, 12)
		m := randomModel(r)
		low := between(r, -80, 60)
		target := at(low, low+r.Intn(70))
		wanted, wantedErr := 0, api.ErrInfeasible
		for motor := a.Most; motor >= a.Least; motor-- {
			isNearer := max(motor-s.Motor, s.Motor-motor) <= max(wanted-s.Motor, s.Motor-wanted)
			if isHit(a, s, m, target, motor) && (wantedErr != api.OK || isNearer) {
				wanted, wantedErr = motor, api.OK
			}
			_, e := drive.CheckInverted(a, s, m, target, motor)
			if isHit(a, s, m, target, motor) != (e == api.OK) {
				t.Fatalf("CheckInverted %v %v %v %v %d: error %d", a, s, m, target, motor, e)
			}
		}
		found[wantedErr]++
		n, e := drive.Inverted(a, s, m, target)
		expect.Result(t, "Inverted", n, e, wanted, wantedErr)
	}
	if found[api.OK] < 500 || found[api.ErrInfeasible] < 500 {
		t.Fatalf("the targets have the errors %v", found)
	}
}

// both points two axes.
func both(x, y task) ([2]int, api.Errno) {
	return drive.Pointed([2]drive.Axis{x.a, y.a}, [2]drive.State{x.s, y.s}, [2][]drive.Band{x.m, y.m}, [2]api.Interval{x.target, y.target})
}

func TestPointed(t *testing.T) {
	known := state(5, 5, 5)
	above, below := task{short(), known, five(), at(140, 143)}, task{short(), known, five(), at(115, 118)}
	other := task{axis(-20, 20, 0), state(0, 0, 0), model(band(-3, 0, 0)), at(1, 4)}
	missed := task{short(), known, five(), at(140, 141)}
	for _, x := range []struct {
		x, y   task
		counts [2]int
		e      api.Errno
	}{
		{above, below, [2]int{11, 3}, api.OK}, {below, above, [2]int{3, 11}, api.OK}, {above, other, [2]int{11, -1}, api.OK}, {other, easy(), [2]int{-1, 5}, api.OK},
		{missed, easy(), [2]int{}, api.ErrInfeasible}, {easy(), missed, [2]int{}, api.ErrInfeasible}, {missed, missed, [2]int{}, api.ErrInfeasible},
	} {
		counts, e := both(x.x, x.y)
		expect.Result(t, "Pointed", counts, e, x.counts, x.e)
	}
	for _, x := range wrongTasks() {
		counts, e := both(x.x, easy())
		expect.Result(t, "Pointed with a wrong first axis", counts, e, [2]int{}, x.e)
		counts, e = both(easy(), x.x)
		expect.Result(t, "Pointed with a wrong second axis", counts, e, [2]int{}, x.e)
		counts, e = both(missed, x.x)
		expect.Result(t, "Pointed with a wrong second axis, where the first one misses", counts, e, [2]int{}, x.e)
		counts, e = both(x.x, task{axis(math.MaxInt, 0, 0), known, nil, at(1, 0)})
		expect.Result(t, "Pointed with two wrong axes", counts, e, [2]int{}, x.e)
		counts, e = both(task{short(), known, five(), at(1, 0)}, x.x)
		expect.Result(t, "Pointed with a wrong first target", counts, e, [2]int{}, api.ErrOrder)
	}
}
