package aim

import (
	"slices"

	"spillage/api"
	"spillage/common"
)

// changed returns a copy of a plan in which a mirror has another aim.
func changed(p []int, mirror, aim int) []int {
	p = slices.Clone(p)
	p[mirror] = aim
	return p
}

// Released returns the mirrors that leave a plan so that no tile can be too hot.
func Released(r Receiver, l []Spot, p []int) ([]int, api.Errno) {
	if e := checkPlans(r, l, p); e != api.OK {
		return nil, e
	}
	var mirrors []int
	for {
		tile, found := hotTile(r, peakOf(r, l, p))
		if !found {
			return mirrors, api.OK
		}
		mirror := brightest(r, l, p, r.index(tile))
		mirrors = append(mirrors, mirror)
		p = changed(p, mirror, None)
	}
}

// brightest returns the mirror of a plan with the greatest worst light on a tile
// that gets some.
func brightest(r Receiver, l []Spot, p []int, tile int) int {
	mirror, most := None, 0
	for i, aim := range p {
		if aim == None {
			continue
		}
		if n := aimedAt(l[i], aim).worst(r)[tile]; n > most {
			mirror, most = i, n
		}
	}
	return mirror
}

// differences returns the mirrors whose aims differ in two plans for the same
// spots.
func differences(a, b []int) []int {
	var mirrors []int
	for i, aim := range a {
		if aim != b[i] {
			mirrors = append(mirrors, i)
		}
	}
	return mirrors
}

// Differences returns the mirrors whose aims differ in two plans.
func Differences(l []Spot, a, b []int) ([]int, api.Errno) {
	if e := common.First(checkSpots(l), checkPlan(l, a), checkPlan(l, b)); e != api.OK {
		return nil, e
	}
	return differences(a, b), api.OK
}

// move is a mirror whose aims differ, with what its change adds to the peak.
type move struct {
	mirror int
	adds   []int
}

// movesOf returns the moves of some mirrors from one plan to another one.
func movesOf(r Receiver, l []Spot, a, b, mirrors []int) []move {
	peak := peakOf(r, l, a)
	return common.Mapped(mirrors, func(mirror int) move {
		after := peakOf(r, l, changed(a, mirror, b[mirror]))
		for i := range after {
			after[i] -= peak[i]
		}
		return move{mirror: mirror, adds: after}
	})
}

// firstOrder returns the first right order of moves from a plan with a peak on,
// or false if there is none.
func firstOrder(r Receiver, peak []int, moves []move) ([]int, bool) {
	if len(moves) == 0 {
		return nil, true
	}
	for i, x := range moves {
		next := added(peak, x.adds)
		if !isRight(r, next) {
			continue
		}
		rest := slices.Concat(moves[:i], moves[i+1:])
		if order, ok := firstOrder(r, next, rest); ok {
			return append([]int{x.mirror}, order...), true
		}
	}
	return nil, false
}

// Steps returns the order in which mirrors go from one plan to another one.
func Steps(r Receiver, l []Spot, a, b []int) ([]int, api.Errno) {
	if e := checkPlans(r, l, a, b); e != api.OK {
		return nil, e
	}
	mirrors := differences(a, b)
	e := common.First(
		checkRight(r, l, a, b),
		common.When(len(mirrors) > api.MaxExact, api.ErrLimit),
	)
	if e != api.OK {
		return nil, e
	}
	order, ok := firstOrder(r, peakOf(r, l, a), movesOf(r, l, a, b, mirrors))
	return order, common.When(!ok, api.ErrInfeasible)
}

// CheckSteps returns OK for an order in which no tile can be too hot on the way.
func CheckSteps(r Receiver, l []Spot, a, b, order []int) api.Errno {
	e := common.First(checkPlans(r, l, a, b), common.When(len(order) > MaxMirrors, api.ErrMany))
	if e != api.OK {
		return e
	}
	if e := checkRight(r, l, a, b); e != api.OK {
		return e
	}
	mirrors := differences(a, b)
	for i, mirror := range order {
		e := common.First(
			common.When(!slices.Contains(mirrors, mirror), api.ErrUnknown),
			common.When(slices.Contains(order[:i], mirror), api.ErrTwice),
		)
		if e != api.OK {
			return e
		}
		a = changed(a, mirror, b[mirror])
		if e := checkRight(r, l, a); e != api.OK {
			return e
		}
	}
	return common.When(len(order) < len(mirrors), api.ErrShort)
}
