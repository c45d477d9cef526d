package aim

import (
	"iter"

	"spillage/api"
	"spillage/common"
)

// The indices of a share.
const (
	given = iota
	spilled
)

// share is how much of a spot's light is given to tiles, and how much is spilled.
type share [2]int

// aimed is a spot with one of its aims.
type aimed struct {
	Spot
	at api.Point
}

func aimedAt(s Spot, aim int) aimed {
	return aimed{Spot: s, at: s.Aims[aim]}
}

// shifts visits the admitted shifts.
func (x aimed) shifts() iter.Seq[api.Point] {
	reach := api.Interval{Low: -x.Wrong, High: x.Wrong}
	return common.PlacesIn(reach, reach)
}

// cast returns what each tile gets by a shift, and the share of all of them.
func (x aimed) cast(r Receiver, shift api.Point) ([]int, share) {
	tiles := make([]int, len(r.Limits))
	var all share
	for row := range x.Map.Height {
		for column := range x.Map.Width {
			n := common.IntegerOf(x.Map.Samples[row*x.Map.Width+column])
			tile := api.Point{X: x.at.X + shift.X + column, Y: x.at.Y + shift.Y + row}
			if !r.has(tile) {
				all[spilled] += n
				continue
			}
			all[given] += n
			tiles[r.index(tile)] = n
		}
	}
	return tiles, all
}

// flux returns what each tile gets without a shift.
func (x aimed) flux(r Receiver) []int {
	tiles, _ := x.cast(r, api.Point{})
	return tiles
}

// share returns the share without a shift.
func (x aimed) share(r Receiver) share {
	_, all := x.cast(r, api.Point{})
	return all
}

// spilled returns what is spilled without a shift.
func (x aimed) spilled(r Receiver) int {
	return x.share(r)[spilled]
}

// least returns the least light by an admitted shift.
func (x aimed) least(r Receiver) int {
	unshifted := x.share(r)
	// The shifts of a spot without light need no look.
	if unshifted == (share{}) {
		return 0
	}
	least := unshifted[given]
	for shift := range x.shifts() {
		_, shifted := x.cast(r, shift)
		least = min(least, shifted[given])
	}
	return least
}

// worst returns the greatest light of each tile by an admitted shift.
func (x aimed) worst(r Receiver) []int {
	worst := make([]int, len(r.Limits))
	for shift := range x.shifts() {
		tiles, _ := x.cast(r, shift)
		for i, n := range tiles {
			worst[i] = max(worst[i], n)
		}
	}
	return worst
}
