package drive_test

import (
	"math"
	"slices"
	"strings"
	"testing"

	"spillage/api"
	"spillage/drive"
	"spillage/expect"
)

// P1: no function panics, for whatever arguments; each result depends on them alone.

func hostileNumbers() []int {
	return []int{math.MinInt, math.MinInt + 1, -1<<32 - 1, -1 << 32, -2000000, -1001, -1000, -1, 0, 1, 50, 51, 1000, 1001, 2000001, 1 << 32, 1<<32 + 1, math.MaxInt - 1, math.MaxInt}
}

func hostileIntervals() []api.Interval {
	var l []api.Interval
	for _, a := range hostileNumbers() {
		for _, b := range []int{math.MinInt, -1, 0, 1, 1000, a, math.MaxInt} {
			l = append(l, at(a, b), at(b, a))
		}
	}
	return l
}

func hostileModels() [][]drive.Band {
	l := [][]drive.Band{nil, five(), bands(64), make([]drive.Band, 64), make([]drive.Band, 1000)}
	for _, x := range hostileIntervals() {
		l = append(l, model(drive.Band{Gain: x.Low, Offset: x}), model(drive.Band{Gain: 1000, Offset: x}), model(band(-1000, x.Low, x.Low), band(x.High, 0, 0)))
	}
	return l
}

func TestNoPanicOfMotors(t *testing.T) {
	for _, x := range hostileIntervals() {
		for _, n := range hostileNumbers() {
			for _, a := range []drive.Axis{short(), axis(x.Low, x.High, 3), axis(-1000, 1000, n), axis(n, x.High, x.Low)} {
				drive.CheckAxis(a)
				for _, s := range []drive.State{state(5, 5, 5), {Motor: n, Mirror: x}, {Motor: 5, Mirror: x}} {
					drive.CheckState(a, s)
					drive.Moved(a, s, []int{n, x.Low, x.High})
					drive.Referenced(a, s)
					drive.Inverted(a, s, five(), x)
					drive.CheckInverted(a, s, five(), x, n)
				}
			}
			drive.Track([2]int{n, x.Low}, [2]int{x.High, n}, [2]int{1, 100})
			drive.Track([2]int{0, 0}, [2]int{x.High, x.Low}, [2]int{n, 1})
			drive.Voted([3]int{n, x.Low, x.High}, n)
			drive.Voted([3]int{n, x.Low, x.High}, 5)
		}
	}
}

func TestNoPanicOfModels(t *testing.T) {
	for _, m := range hostileModels() {
		drive.CheckModel(m)
		drive.Pairs(m)
		drive.Print(m)
		for _, x := range hostileIntervals() {
			drive.Drifted(m, x)
			drive.Within(m, x)
			drive.Has(m, x.Low, x.High)
			drive.Refined(m, drive.Spot{Count: x.Low, Seen: x})
			drive.Refined(m, drive.Spot{Count: 1000, Seen: x})
			drive.CheckInverted(short(), state(5, 5, 5), m, x, 7)
			both(task{short(), state(5, 5, 5), m, x}, task{short(), state(5, 5, 5), m, at(-far, far)})
		}
	}
	for _, x := range hostileIntervals() {
		for _, n := range hostileNumbers() {
			drive.CheckSpots([]drive.Spot{{Count: n, Seen: x}})
			drive.Fitted([]drive.Spot{{Count: n, Seen: x}}, at(-5, 5))
			drive.Fitted([]drive.Spot{spot(0, 0, 0), {Count: n, Seen: at(-1000000, 1000000)}}, x)
		}
	}
	drive.Fitted(make([]drive.Spot, 100000), at(0, 0))
}

func TestNoPanicOfCurrents(t *testing.T) {
	for _, x := range append(wrongSamples(), 0, 1, -1) {
		for _, n := range hostileNumbers() {
			drive.Overloads([]float32{x, x, 1}, x, n)
			drive.Overloads([]float32{1, x}, 0, n)
			drive.Overloads(make([]float32, 5000), x, n)
		}
	}
}

func TestNoPanicOfTexts(t *testing.T) {
	for _, s := range []string{
		"", "\n", " ", "band", "band\n", "band \n", "band 0 0 0", "\xff\xfe", "band \xff\n", "band 999999999 999999999 999999999\nband -999999999 -999999999 -999999999\n",
		strings.Repeat("\n", 4096), strings.Repeat(" ", 4096), strings.Repeat("band\n", 800), strings.Repeat("band 0 0 0\n", 372), strings.Repeat("x", 1000000), "band" + strings.Repeat(" 1", 2000) + "\n",
	} {
		drive.Parse(s)
	}
}

// TestArgumentsStay checks that no call changes its arguments.
func TestArgumentsStay(t *testing.T) {
	steps, currents, m := []int{2, -1, -4}, []float32{1, 5, 6, 2, 7}, five()
	for range 3 {
		x, e := drive.Moved(short(), state(5, 2, 5), steps)
		expect.Result(t, "Moved", x, e, state(2, 2, 2), api.OK)
		l, e := drive.Overloads(currents, 4, 2)
		expect.List(t, "Overloads", l, e, []api.Span{span(1, 3)}, api.OK)
		l[0] = span(9, 9)
		_, run, _ := drive.Referenced(short(), state(5, 2, 5))
		expect.List(t, "the steps of a reference run", run, api.OK, []int{-25, 3}, api.OK)
		run[0] = 9
		n, e := drive.Inverted(short(), state(5, 5, 5), m, at(140, 143))
		expect.Result(t, "Inverted", n, e, 11, api.OK)
		track, e := drive.Track([2]int{0, 0}, [2]int{1, 0}, [2]int{1, 1})
		expect.List(t, "Track", track, e, [][2]int{{0, 0}, {1, 0}}, api.OK)
		track[0] = [2]int{9, 9}
	}
	if !slices.Equal(steps, []int{2, -1, -4}) || !slices.Equal(currents, []float32{1, 5, 6, 2, 7}) || !slices.Equal(m, five()) {
		t.Errorf("arguments have changed: %v %v %v", steps, currents, m)
	}
}
