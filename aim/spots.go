package aim

import (
	"slices"

	"spillage/api"
	"spillage/common"
	"spillage/light"
)

// maxHeats is how many temperatures are at most looked up at once.
const maxHeats = 64

// checkAll returns ErrRange for the first number that is not from 0 to most.
func checkAll(l []int, most int) api.Errno {
	return common.First(common.Mapped(l, func(n int) api.Errno { return common.CheckRange(n, 0, most) })...)
}

// CheckReceiver returns the first error of a receiver, or OK.
func CheckReceiver(r Receiver) api.Errno {
	return common.First(
		common.CheckRange(r.Width, 1, MaxTiles),
		common.CheckRange(r.Height, 1, MaxTiles),
		common.When(len(r.Limits) != r.Width*r.Height, api.ErrShape),
		checkAll(r.Limits, MaxLimit),
	)
}

// has reports whether the receiver has a tile.
func (r Receiver) has(tile api.Point) bool {
	return common.IsPlace(tile, r.Width, r.Height)
}

// index returns the index of a tile.
func (r Receiver) index(tile api.Point) int {
	return tile.Y*r.Width + tile.X
}

// spotPart is a part of a spot, which is asked for its first error.
type spotPart struct {
	ask func(s Spot) api.Errno
}

// spotParts returns the parts of a spot, in the order of their errors.
func spotParts() [4]spotPart {
	return [4]spotPart{{ask: checkName}, {ask: checkMap}, {ask: checkAims}, {ask: checkWrong}}
}

func checkSpot(s Spot) api.Errno {
	for _, part := range spotParts() {
		if e := part.ask(s); e != api.OK {
			return e
		}
	}
	return api.OK
}

func checkName(s Spot) api.Errno {
	return common.When(!light.IsName(s.Name), api.ErrName)
}

func checkMap(s Spot) api.Errno {
	isBelow := func(x float32) bool { return x < 0 }
	return common.First(
		light.CheckMap(s.Map),
		common.When(s.Map.Width > MaxSpot || s.Map.Height > MaxSpot, api.ErrLarge),
		common.When(slices.ContainsFunc(s.Map.Samples, isBelow), api.ErrRange),
	)
}

func checkAims(s Spot) api.Errno {
	if e := common.CheckLength(len(s.Aims), MaxAims); e != api.OK {
		return e
	}
	for i, at := range s.Aims {
		e := common.First(
			common.CheckPoint(at, -MaxAim, MaxAim),
			common.When(slices.Contains(s.Aims[:i], at), api.ErrTwice),
		)
		if e != api.OK {
			return e
		}
	}
	return api.OK
}

func checkWrong(s Spot) api.Errno {
	return common.CheckRange(s.Wrong, 0, MaxWrong)
}

func checkSpots(l []Spot) api.Errno {
	return common.CheckDistinct(l, MaxMirrors, checkSpot, func(s Spot) string { return s.Name })
}

// CheckSpots returns the first error of mirrors, or OK.
func CheckSpots(r Receiver, l []Spot) api.Errno {
	return common.First(CheckReceiver(r), checkSpots(l))
}

func checkTable(table []Step) api.Errno {
	if e := common.CheckLength(len(table), MaxSteps); e != api.OK {
		return e
	}
	return common.CheckAscending(table, checkStep, func(before, x Step) bool {
		return before.Heat < x.Heat && before.Limit >= x.Limit
	})
}

func checkStep(x Step) api.Errno {
	return common.First(
		common.CheckRange(x.Heat, 0, MaxHeat),
		common.CheckRange(x.Limit, 0, MaxLimit),
	)
}

// Limits returns the limits of tiles by their temperatures.
func Limits(table []Step, heat []int) ([]int, api.Errno) {
	e := common.First(
		checkTable(table),
		common.When(len(heat) > maxHeats, api.ErrMany),
		checkAll(heat, MaxHeat),
	)
	if e != api.OK {
		return nil, e
	}
	return common.Mapped(heat, func(n int) int { return limitAt(table, n) }), api.OK
}

// limitAt returns the limit of a table at a temperature.
func limitAt(table []Step, heat int) int {
	for _, x := range table {
		if heat <= x.Heat {
			return x.Limit
		}
	}
	return 0
}

// Share returns the light of a spot at an aim on the receiver, and what is spilled.
func Share(r Receiver, s Spot, aim int) (int, int, api.Errno) {
	if e := checkAimed(r, s, aim); e != api.OK {
		return 0, 0, e
	}
	all := aimedAt(s, aim).share(r)
	return all[given], all[spilled], api.OK
}

// Least returns the least light of a spot at an aim for all admitted errors.
func Least(r Receiver, s Spot, aim int) (int, api.Errno) {
	if e := checkAimed(r, s, aim); e != api.OK {
		return 0, e
	}
	return aimedAt(s, aim).least(r), api.OK
}

// Worst returns the greatest light of a spot at an aim on each tile for all admitted errors.
func Worst(r Receiver, s Spot, aim int) ([]int, api.Errno) {
	if e := checkAimed(r, s, aim); e != api.OK {
		return nil, e
	}
	return aimedAt(s, aim).worst(r), api.OK
}

// checkAimed returns the first error of a receiver, a spot, and the index of one
// of its aims.
func checkAimed(r Receiver, s Spot, aim int) api.Errno {
	return common.First(
		CheckReceiver(r),
		checkSpot(s),
		common.When(aim < 0 || aim >= len(s.Aims), api.ErrUnknown),
	)
}
