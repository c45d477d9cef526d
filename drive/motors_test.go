package drive_test

import (
	"math"
	"math/rand"
	"slices"
	"testing"

	"spillage/api"
	"spillage/drive"
	"spillage/expect"
)

// P3.1

func TestCheckAxis(t *testing.T) {
	for _, a := range []drive.Axis{short(), {}, axis(-1000, 1000, 50), axis(-1000, -1000, 0), axis(1000, 1000, 50), axis(0, 1, 50), axis(7, 7, 1)} {
		expect.Err(t, "CheckAxis", drive.CheckAxis(a), api.OK)
	}
	for _, x := range wrongAxes() {
		if e := drive.CheckAxis(x.x); e != x.e {
			t.Errorf("CheckAxis %v: error %d, want %d", x.x, e, x.e)
		}
	}
}

func TestCheckState(t *testing.T) {
	for _, x := range []seat{
		{short(), state(5, 2, 5)}, {short(), state(5, 2, 2)}, {short(), state(5, 5, 5)}, {short(), state(5, 3, 4)}, {short(), state(-20, -23, -20)}, {short(), state(-20, -23, -23)}, {short(), state(20, 17, 20)},
		{axis(-20, 20, 0), state(5, 5, 5)}, {axis(0, 0, 50), state(0, -50, 0)}, {axis(-1000, 1000, 50), state(-1000, -1050, -1000)}, {axis(-1000, 1000, 50), state(1000, 950, 1000)}, {drive.Axis{}, drive.State{}},
	} {
		if e := drive.CheckState(x.a, x.s); e != api.OK {
			t.Errorf("CheckState %v: error %d", x, e)
		}
	}
	for _, x := range wrongStates() {
		if e := drive.CheckState(x.x.a, x.x.s); e != x.e {
			t.Errorf("CheckState %v: error %d, want %d", x.x, e, x.e)
		}
	}
}

func TestMoved(t *testing.T) {
	wide := state(5, 2, 5)
	for _, x := range []struct {
		a     drive.Axis
		s     drive.State
		steps []int
		after drive.State
	}{
		{short(), wide, nil, wide}, {short(), wide, []int{}, wide}, {short(), wide, []int{0}, wide}, {short(), wide, []int{0, 0, 0}, wide}, {short(), wide, []int{2}, state(7, 4, 5)}, {short(), wide, []int{2, -1}, state(6, 4, 5)}, {short(), wide, []int{2, -1, -4}, state(2, 2, 2)},
		{short(), wide, []int{3}, state(8, 5, 5)}, {short(), wide, []int{4}, state(9, 6, 6)}, {short(), wide, []int{1}, state(6, 3, 5)}, {short(), wide, []int{-1}, state(4, 2, 4)}, {short(), wide, []int{-3}, state(2, 2, 2)}, {short(), wide, []int{-4}, state(1, 1, 1)}, {short(), wide, []int{1, -1}, state(5, 3, 5)}, {short(), wide, []int{-1, 1}, state(5, 2, 4)},
		{short(), wide, []int{15}, state(20, 17, 17)}, {short(), wide, []int{-25}, state(-20, -20, -20)}, {short(), wide, []int{15, -40, 40}, state(20, 17, 17)}, {short(), wide, []int{-25, 0, 1}, state(-19, -20, -20)},
		{short(), state(-20, -23, -21), []int{0}, state(-20, -23, -21)}, {short(), state(-20, -23, -21), []int{1}, state(-19, -22, -21)}, {short(), state(-20, -23, -21), []int{40}, state(20, 17, 17)},
		{axis(-20, 20, 0), state(5, 5, 5), []int{7, -1}, state(11, 11, 11)}, {axis(0, 0, 50), state(0, -50, -7), []int{0}, state(0, -50, -7)}, {axis(-1000, 1000, 50), state(-1000, -1050, -1000), []int{2000}, state(1000, 950, 950)}, {axis(-1000, 1000, 50), state(1000, 950, 1000), []int{-2000}, state(-1000, -1000, -1000)},
		{axis(0, 256, 3), state(0, -3, 0), slices.Repeat([]int{1}, 256), state(256, 253, 253)},
	} {
		after, e := drive.Moved(x.a, x.s, x.steps)
		expect.Result(t, "Moved", after, e, x.after, api.OK)
	}
}

func TestMovedWithErrors(t *testing.T) {
	wide := state(5, 2, 5)
	for _, x := range []struct {
		steps []int
		e     api.Errno
	}{
		{[]int{16}, api.ErrLimit}, {[]int{-26}, api.ErrLimit}, {[]int{15, 1}, api.ErrLimit}, {[]int{15, 1, -5}, api.ErrLimit}, {[]int{-25, -1}, api.ErrLimit}, {[]int{16, -16}, api.ErrLimit}, {[]int{1, 2, 3, 10}, api.ErrLimit},
		{[]int{math.MaxInt}, api.ErrLimit}, {[]int{math.MinInt}, api.ErrLimit}, {[]int{math.MaxInt, math.MinInt, 1}, api.ErrLimit}, {[]int{15, math.MaxInt}, api.ErrLimit}, {[]int{-25, math.MinInt}, api.ErrLimit}, {[]int{math.MaxInt - 4}, api.ErrLimit}, {[]int{-15, math.MinInt + 10}, api.ErrLimit},
		{make([]int, 257), api.ErrMany}, {make([]int, 100000), api.ErrMany}, {slices.Repeat([]int{16}, 257), api.ErrMany},
	} {
		after, e := drive.Moved(short(), wide, x.steps)
		expect.Result(t, "Moved with an error", after, e, drive.State{}, x.e)
	}
	for _, x := range wrongStates() {
		after, e := drive.Moved(x.x.a, x.x.s, []int{1})
		expect.Result(t, "Moved of a wrong state", after, e, drive.State{}, x.e)
		after, e = drive.Moved(x.x.a, x.x.s, make([]int, 257))
		expect.Result(t, "Moved with two errors", after, e, drive.State{}, x.e)
	}
}

// TestMovedCountByCount compares the ends with those of each count, by random steps.
func TestMovedCountByCount(t *testing.T) {
	r := rand.New(rand.NewSource(31))
	limits := 0
	for range 3000 {
		a, s := randomSeat(r, 12)
		motor, mirrors := s.Motor, []int{}
		for m := s.Mirror.Low; m <= s.Mirror.High; m++ {
			mirrors = append(mirrors, m)
		}
		var steps []int
		wanted := api.OK
		for range r.Intn(6) {
			step := between(r, -8, 8)
			steps = append(steps, step)
			motor += step
			if motor < a.Least || motor > a.Most {
				wanted = api.ErrLimit
				limits++
				break
			}
			for i, m := range mirrors {
				mirrors[i] = left(a.Play, m, motor)
			}
		}
		after, e := drive.Moved(a, s, steps)
		if wanted != api.OK {
			expect.Result(t, "Moved out of the axis", after, e, drive.State{}, wanted)
			continue
		}
		expect.Result(t, "Moved", after, e, state(motor, slices.Min(mirrors), slices.Max(mirrors)), api.OK)
		expect.Err(t, "CheckState after steps", drive.CheckState(a, after), api.OK)
	}
	if limits < 500 || limits > 2500 {
		t.Fatalf("%d of the steps leave the axis", limits)
	}
}

func TestReferenced(t *testing.T) {
	for _, x := range []struct {
		a     drive.Axis
		s     drive.State
		after drive.State
		steps []int
	}{
		{short(), state(5, 2, 5), state(-17, -20, -20), []int{-25, 3}}, {short(), state(-20, -23, -20), state(-17, -20, -20), []int{0, 3}}, {short(), state(20, 17, 20), state(-17, -20, -20), []int{-40, 3}}, {short(), state(-20, -20, -20), state(-17, -20, -20), []int{0, 3}},
		{axis(-20, 20, 0), state(5, 5, 5), state(-20, -20, -20), []int{-25, 0}}, {axis(-3, 0, 3), state(0, -3, 0), state(0, -3, -3), []int{-3, 3}}, {axis(4, 4, 0), state(4, 4, 4), state(4, 4, 4), []int{0, 0}}, {axis(-1000, 1000, 50), state(1000, 950, 1000), state(-950, -1000, -1000), []int{-2000, 50}}, {axis(950, 1000, 50), state(1000, 950, 1000), state(1000, 950, 950), []int{-50, 50}},
	} {
		after, steps, e := drive.Referenced(x.a, x.s)
		expect.Result(t, "Referenced", after, e, x.after, api.OK)
		expect.List(t, "the steps of Referenced", steps, e, x.steps, api.OK)
	}
}

func TestReferencedWithErrors(t *testing.T) {
	l := append(wrongStates(), wrong[seat]{seat{axis(0, 2, 3), state(1, 1, 1)}, api.ErrLimit}, wrong[seat]{seat{axis(0, 0, 1), state(0, 0, 0)}, api.ErrLimit}, wrong[seat]{seat{axis(951, 1000, 50), state(1000, 1000, 1000)}, api.ErrLimit}, wrong[seat]{seat{axis(0, 2, 3), state(1, 3, 1)}, api.ErrOrder})
	for _, x := range l {
		after, steps, e := drive.Referenced(x.x.a, x.x.s)
		expect.Result(t, "Referenced with an error", after, e, drive.State{}, x.e)
		expect.List(t, "the steps of Referenced with an error", steps, e, nil, x.e)
	}
}

func TestTrack(t *testing.T) {
	for _, x := range []struct {
		from, to, rates [2]int
		track           [][2]int
	}{
		{[2]int{0, 0}, [2]int{5, -2}, [2]int{2, 2}, [][2]int{{0, 0}, {2, -2}, {4, -2}, {5, -2}}}, {[2]int{7, -7}, [2]int{7, -7}, [2]int{1, 1}, [][2]int{{7, -7}}}, {[2]int{0, 0}, [2]int{0, 3}, [2]int{100, 1}, [][2]int{{0, 0}, {0, 1}, {0, 2}, {0, 3}}}, {[2]int{0, 0}, [2]int{-3, 0}, [2]int{2, 100}, [][2]int{{0, 0}, {-2, 0}, {-3, 0}}},
		{[2]int{0, 10}, [2]int{100, 0}, [2]int{100, 5}, [][2]int{{0, 10}, {100, 5}, {100, 0}}}, {[2]int{1000, -1000}, [2]int{900, -901}, [2]int{100, 100}, [][2]int{{1000, -1000}, {900, -901}}}, {[2]int{1, 1}, [2]int{0, 2}, [2]int{7, 7}, [][2]int{{1, 1}, {0, 2}}}, {[2]int{0, 0}, [2]int{4, 4}, [2]int{2, 3}, [][2]int{{0, 0}, {2, 3}, {4, 4}}},
	} {
		track, e := drive.Track(x.from, x.to, x.rates)
		expect.List(t, "Track", track, e, x.track, api.OK)
	}
	long, e := drive.Track([2]int{-1000, 1000}, [2]int{1000, -1000}, [2]int{1, 2})
	if e != api.OK || len(long) != 2001 || long[1000] != [2]int{0, -1000} || long[999] != [2]int{-1, -998} || long[2000] != [2]int{1000, -1000} {
		t.Errorf("a long track: %d poses, error %d", len(long), e)
	}
}

func TestTrackWithErrors(t *testing.T) {
	none := [2]int{0, 0}
	for _, n := range expect.Outside(-1000, 1000) {
		for _, x := range [][2]int{{n, 0}, {0, n}, {n, n}} {
			track, e := drive.Track(x, none, [2]int{1, 1})
			expect.List(t, "Track from a wrong count", track, e, nil, api.ErrRange)
			track, e = drive.Track(none, x, [2]int{1, 1})
			expect.List(t, "Track to a wrong count", track, e, nil, api.ErrRange)
			track, e = drive.Track(x, x, [2]int{1, 1})
			expect.List(t, "Track that stays at a wrong count", track, e, nil, api.ErrRange)
		}
	}
	for _, n := range append(expect.Outside(1, 100), -1) {
		for _, x := range [][2]int{{n, 1}, {1, n}, {n, n}} {
			track, e := drive.Track(none, [2]int{1, 1}, x)
			expect.List(t, "Track with a wrong rate", track, e, nil, api.ErrRange)
			track, e = drive.Track(none, none, x)
			expect.List(t, "Track that stays, with a wrong rate", track, e, nil, api.ErrRange)
		}
	}
}
