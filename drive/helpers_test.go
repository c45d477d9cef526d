package drive_test

import (
	"math"
	"math/rand"
	"slices"

	"spillage/api"
	"spillage/drive"
	"spillage/expect"
)

func at(low, high int) api.Interval { return api.Interval{Low: low, High: high} }

func span(from, to int) api.Span { return api.Span{From: from, To: to} }

func axis(least, most, play int) drive.Axis {
	return drive.Axis{Least: least, Most: most, Play: play}
}

func state(motor, low, high int) drive.State {
	return drive.State{Motor: motor, Mirror: at(low, high)}
}

func spot(count, low, high int) drive.Spot { return drive.Spot{Count: count, Seen: at(low, high)} }

func band(gain, low, high int) drive.Band { return drive.Band{Gain: gain, Offset: at(low, high)} }

func model(l ...drive.Band) []drive.Band { return l }

// short is the axis A of the chapter's examples, five the model of its band.
func short() drive.Axis { return axis(-20, 20, 3) }

func five() []drive.Band { return model(band(5, 100, 102)) }

// bands returns a model of n bands.
func bands(n int) []drive.Band {
	var m []drive.Band
	for i := range n {
		m = append(m, band(i-32, i, i+1))
	}
	return m
}

type wrong[T any] struct {
	x T
	e api.Errno
}

// wrongIntervals are intervals with an error, within a range.
func wrongIntervals(low, high int) []wrong[api.Interval] {
	l := []wrong[api.Interval]{{at(low+1, low), api.ErrOrder}, {at(high, high-1), api.ErrOrder}, {at(high, low), api.ErrOrder}, {at(1, -1), api.ErrOrder}}
	for _, n := range expect.Outside(low, high) {
		l = append(l, wrong[api.Interval]{at(n, high), api.ErrRange}, wrong[api.Interval]{at(low, n), api.ErrRange}, wrong[api.Interval]{at(high, n), api.ErrRange}, wrong[api.Interval]{at(n, low), api.ErrRange}, wrong[api.Interval]{at(n, n), api.ErrRange})
	}
	return l
}

func wrongAxes() []wrong[drive.Axis] {
	var l []wrong[drive.Axis]
	for _, x := range wrongIntervals(-1000, 1000) {
		l = append(l, wrong[drive.Axis]{axis(x.x.Low, x.x.High, 0), x.e}, wrong[drive.Axis]{axis(x.x.Low, x.x.High, -1), x.e}, wrong[drive.Axis]{axis(x.x.Low, x.x.High, 51), x.e})
	}
	for _, n := range expect.Outside(0, 50) {
		l = append(l, wrong[drive.Axis]{axis(-20, 20, n), api.ErrRange}, wrong[drive.Axis]{axis(1, 0, n), api.ErrOrder})
	}
	return l
}

type seat struct {
	a drive.Axis
	s drive.State
}

func wrongStates() []wrong[seat] {
	var l []wrong[seat]
	for _, x := range wrongAxes() {
		l = append(l, wrong[seat]{seat{x.x, state(0, 0, 0)}, x.e}, wrong[seat]{seat{x.x, state(2000, 1, 0)}, x.e})
	}
	for _, n := range expect.Outside(-20, 20) {
		l = append(l, wrong[seat]{seat{short(), state(n, n, n)}, api.ErrRange}, wrong[seat]{seat{short(), state(n, 1, 0)}, api.ErrRange})
	}
	for _, x := range []wrong[drive.State]{
		{state(5, 4, 3), api.ErrOrder}, {state(5, 6, 5), api.ErrOrder}, {state(5, 2, 1), api.ErrOrder}, {state(5, math.MaxInt, math.MinInt), api.ErrOrder}, {state(5, 5, math.MinInt), api.ErrOrder}, {state(5, 100, 99), api.ErrOrder},
		{state(5, 1, 5), api.ErrConflict}, {state(5, 2, 6), api.ErrConflict}, {state(5, 1, 6), api.ErrConflict}, {state(5, 1, 1), api.ErrConflict}, {state(5, 6, 6), api.ErrConflict}, {state(-20, -24, -20), api.ErrConflict}, {state(5, math.MinInt, 5), api.ErrConflict}, {state(5, 5, math.MaxInt), api.ErrConflict}, {state(5, math.MinInt, math.MaxInt), api.ErrConflict},
	} {
		l = append(l, wrong[seat]{seat{short(), x.x}, x.e})
	}
	return append(l, wrong[seat]{seat{axis(-20, 20, 0), state(5, 4, 5)}, api.ErrConflict})
}

func wrongSpots() []wrong[drive.Spot] {
	var l []wrong[drive.Spot]
	for _, x := range wrongIntervals(-1000000, 1000000) {
		l = append(l, wrong[drive.Spot]{drive.Spot{Count: 1, Seen: x.x}, x.e})
	}
	for _, n := range expect.Outside(-1000, 1000) {
		l = append(l, wrong[drive.Spot]{spot(n, 0, 1), api.ErrRange}, wrong[drive.Spot]{spot(n, 1, 0), api.ErrRange})
	}
	return l
}

func wrongLists() []wrong[[]drive.Spot] {
	l := []wrong[[]drive.Spot]{
		{nil, api.ErrEmpty}, {[]drive.Spot{}, api.ErrEmpty}, {make([]drive.Spot, 17), api.ErrMany}, {make([]drive.Spot, 100000), api.ErrMany}, {slices.Repeat([]drive.Spot{spot(1001, 0, 0)}, 17), api.ErrMany},
		{[]drive.Spot{spot(0, 1, 0), spot(1001, 0, 0)}, api.ErrOrder}, {[]drive.Spot{spot(0, 0, 1000001), spot(0, 1, 0)}, api.ErrRange},
	}
	for _, x := range wrongSpots() {
		l = append(l, wrong[[]drive.Spot]{[]drive.Spot{x.x}, x.e}, wrong[[]drive.Spot]{[]drive.Spot{spot(0, 0, 0), spot(0, 0, 0), x.x}, x.e})
	}
	return l
}

func wrongModels() []wrong[[]drive.Band] {
	l := []wrong[[]drive.Band]{
		{nil, api.ErrEmpty}, {model(), api.ErrEmpty}, {bands(65), api.ErrMany}, {make([]drive.Band, 65), api.ErrMany}, {make([]drive.Band, 100000), api.ErrMany}, {slices.Repeat(model(band(1001, 0, 0)), 65), api.ErrMany},
		{model(band(5, 0, 0), band(5, 0, 0)), api.ErrOrder}, {model(band(5, 0, 0), band(4, 0, 0)), api.ErrOrder}, {model(band(-1, 0, 0), band(-2, 0, 0)), api.ErrOrder}, {model(band(1, 0, 0), band(2, 0, 0), band(2, 1, 1)), api.ErrOrder}, {model(band(1, 0, 0), band(3, 0, 0), band(2, 0, 0)), api.ErrOrder},
		{model(band(5, 0, 0), band(4, 0, 0), band(1001, 0, 0)), api.ErrOrder}, {model(band(5, 1, 0), band(1001, 0, 0)), api.ErrOrder}, {model(band(5, 0, 0), band(4, 0, 2000001)), api.ErrRange}, {model(band(5, 0, 0), band(-1001, 0, 0)), api.ErrRange},
	}
	for _, x := range wrongIntervals(-2000000, 2000000) {
		l = append(l, wrong[[]drive.Band]{model(drive.Band{Gain: 1, Offset: x.x}), x.e}, wrong[[]drive.Band]{model(band(1, 0, 0), drive.Band{Gain: 2, Offset: x.x}, band(2000, 0, 0)), x.e})
	}
	for _, n := range expect.Outside(-1000, 1000) {
		l = append(l, wrong[[]drive.Band]{model(band(n, 0, 0)), api.ErrRange}, wrong[[]drive.Band]{model(band(n, 1, 0)), api.ErrRange}, wrong[[]drive.Band]{model(band(1, 0, 0), band(n, 0, 0)), api.ErrRange})
	}
	return l
}

// The functions below are the chapter's definitions, count by count and pair by pair.

// left returns the count at which the play leaves the mirror.
func left(play, m, c int) int {
	switch {
	case m < c-play:
		return c - play
	case m > c:
		return c
	}
	return m
}

// allows reports whether a spot permits a pair.
func allows(x drive.Spot, gain, offset int) bool {
	place := offset + gain*x.Count
	return x.Seen.Low <= place && place <= x.Seen.High
}

// pairsOf returns all pairs of a model: gains and offsets.
func pairsOf(m []drive.Band) [][2]int {
	var l [][2]int
	for _, b := range m {
		for offset := b.Offset.Low; offset <= b.Offset.High; offset++ {
			l = append(l, [2]int{b.Gain, offset})
		}
	}
	return l
}

// isHit reports whether each pair of a model has its place in a target, for all counts at which the mirror may be after a step.
func isHit(a drive.Axis, s drive.State, m []drive.Band, target api.Interval, motor int) bool {
	for mirror := s.Mirror.Low; mirror <= s.Mirror.High; mirror++ {
		for _, pair := range pairsOf(m) {
			place := pair[1] + pair[0]*left(a.Play, mirror, motor)
			if place < target.Low || place > target.High {
				return false
			}
		}
	}
	return true
}

// between returns a number from low to high.
func between(r *rand.Rand, low, high int) int { return low + r.Intn(high-low+1) }

// interval returns an interval within a range.
func interval(r *rand.Rand, low, high int) api.Interval {
	from := between(r, low, high)
	return at(from, between(r, from, high))
}

// randomSeat returns an axis with a play of at most 6, and a state.
func randomSeat(r *rand.Rand, reach int) (drive.Axis, drive.State) {
	counts := interval(r, -reach, reach)
	a := axis(counts.Low, counts.High, r.Intn(7))
	motor := between(r, a.Least, a.Most)
	return a, drive.State{Motor: motor, Mirror: interval(r, motor-a.Play, motor)}
}

// randomModel returns a model of a few bands near to one another.
func randomModel(r *rand.Rand) []drive.Band {
	gain := between(r, -6, 4)
	var m []drive.Band
	for range between(r, 1, 3) {
		low := between(r, -20, 20)
		m = append(m, band(gain, low, low+r.Intn(4)))
		gain += between(r, 1, 2)
	}
	return m
}
