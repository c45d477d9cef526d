package aim

import (
	"spillage/api"
	"spillage/common"
)

func checkPlan(l []Spot, p []int) api.Errno {
	if len(p) != len(l) {
		return api.ErrShape
	}
	for i, aim := range p {
		if aim != None && (aim < 0 || aim >= len(l[i].Aims)) {
			return api.ErrUnknown
		}
	}
	return api.OK
}

// checkPlans returns the first error of a receiver, spots and plans for them.
func checkPlans(r Receiver, l []Spot, plans ...[]int) api.Errno {
	e := CheckSpots(r, l)
	for _, p := range plans {
		e = common.First(e, checkPlan(l, p))
	}
	return e
}

// inPlan returns the spots of a plan that are not on standby, with their aims.
func inPlan(l []Spot, p []int) []aimed {
	var spots []aimed
	for i, aim := range p {
		if aim != None {
			spots = append(spots, aimedAt(l[i], aim))
		}
	}
	return spots
}

// added returns the sums of the elements of two lists of one length.
func added(a, b []int) []int {
	sums := make([]int, len(a))
	for i, n := range a {
		sums[i] = n + b[i]
	}
	return sums
}

// onTiles returns for each tile the sum of what all spots of a plan give to it.
func onTiles(r Receiver, l []Spot, p []int, give func(aimed, Receiver) []int) []int {
	sums := make([]int, len(r.Limits))
	for _, x := range inPlan(l, p) {
		sums = added(sums, give(x, r))
	}
	return sums
}

// summed returns the sum of what all spots of a plan are asked for.
func summed(r Receiver, l []Spot, p []int, ask func(aimed, Receiver) int) int {
	sum := 0
	for _, x := range inPlan(l, p) {
		sum += ask(x, r)
	}
	return sum
}

func peakOf(r Receiver, l []Spot, p []int) []int {
	return onTiles(r, l, p, aimed.worst)
}

func lightOf(r Receiver, l []Spot, p []int) int {
	return summed(r, l, p, aimed.least)
}

// hotTile returns the first tile that can be too hot with a peak, or false if
// none can.
func hotTile(r Receiver, peak []int) (api.Point, bool) {
	hot, found := api.Point{}, false
search:
	for row := range r.Height {
		for column := range r.Width {
			tile := api.Point{X: column, Y: row}
			if i := r.index(tile); peak[i] > r.Limits[i] {
				hot, found = tile, true
				break search
			}
		}
	}
	return hot, found
}

// isRight reports whether no tile can be too hot with a peak.
func isRight(r Receiver, peak []int) bool {
	_, found := hotTile(r, peak)
	return !found
}

// checkRight returns ErrOver if one of some plans is not right.
func checkRight(r Receiver, l []Spot, plans ...[]int) api.Errno {
	for _, p := range plans {
		if !isRight(r, peakOf(r, l, p)) {
			return api.ErrOver
		}
	}
	return api.OK
}

// Flux returns the light of a plan on each tile.
func Flux(r Receiver, l []Spot, p []int) ([]int, api.Errno) {
	if e := checkPlans(r, l, p); e != api.OK {
		return nil, e
	}
	return onTiles(r, l, p, aimed.flux), api.OK
}

// Peak returns the greatest light of a plan on each tile for all admitted errors.
func Peak(r Receiver, l []Spot, p []int) ([]int, api.Errno) {
	if e := checkPlans(r, l, p); e != api.OK {
		return nil, e
	}
	return peakOf(r, l, p), api.OK
}

// CheckPlan returns OK for a plan of which no tile can be too hot.
func CheckPlan(r Receiver, l []Spot, p []int) api.Errno {
	if e := checkPlans(r, l, p); e != api.OK {
		return e
	}
	return checkRight(r, l, p)
}

// Exceeds returns the first tile of a plan that can be too hot.
func Exceeds(r Receiver, l []Spot, p []int) (api.Point, api.Errno) {
	if e := checkPlans(r, l, p); e != api.OK {
		return api.Point{}, e
	}
	tile, found := hotTile(r, peakOf(r, l, p))
	return tile, common.When(!found, api.ErrNone)
}

// Light returns the least light of a plan for all admitted errors.
func Light(r Receiver, l []Spot, p []int) (int, api.Errno) {
	if e := checkPlans(r, l, p); e != api.OK {
		return 0, e
	}
	return lightOf(r, l, p), api.OK
}

// Spilled returns the light that a plan spills without errors.
func Spilled(r Receiver, l []Spot, p []int) (int, api.Errno) {
	if e := checkPlans(r, l, p); e != api.OK {
		return 0, e
	}
	return summed(r, l, p, aimed.spilled), api.OK
}
