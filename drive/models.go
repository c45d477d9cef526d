package drive

import (
	"slices"

	"spillage/api"
	"spillage/common"
)

const maxOffset = 2 * MaxPlace

var gainEnds = [2]int{-MaxGain, MaxGain}

// check returns the error of a spot, or OK.
func (x Spot) check() api.Errno {
	return common.First(checkCount(x.Count), common.CheckInterval(x.Seen, -MaxPlace, MaxPlace))
}

// offsets returns the offsets that the spot permits with a gain.
func (x Spot) offsets(gain int) api.Interval {
	return api.Interval{Low: x.Seen.Low - gain*x.Count, High: x.Seen.High - gain*x.Count}
}

// CheckSpots returns the first error of spots, or OK.
func CheckSpots(l []Spot) api.Errno {
	if e := common.CheckLength(len(l), MaxSpots); e != api.OK {
		return e
	}
	return common.First(common.Mapped(l, Spot.check)...)
}

// CheckModel returns the first error of a model, or OK.
func CheckModel(m []Band) api.Errno {
	if e := common.CheckLength(len(m), MaxBands); e != api.OK {
		return e
	}
	return common.CheckAscending(m, Band.check, func(before, b Band) bool { return before.Gain < b.Gain })
}

// check returns the error of a band by itself, or OK.
func (b Band) check() api.Errno {
	return checkPair(b.Gain, b.Offset)
}

// checkPair returns the first error of a gain and its offsets, or OK.
func checkPair(gain int, offset api.Interval) api.Errno {
	return common.First(
		common.CheckRange(gain, gainEnds[0], gainEnds[1]),
		common.CheckInterval(offset, -maxOffset, maxOffset),
	)
}

// Fitted returns the model that spots permit.
func Fitted(l []Spot, gains api.Interval) ([]Band, api.Errno) {
	if e := common.First(CheckSpots(l), common.CheckInterval(gains, gainEnds[0], gainEnds[1])); e != api.OK {
		return nil, e
	}
	m := permitted(everything(gains), l...)
	if e := common.First(common.When(len(m) == 0, api.ErrInfeasible), common.When(len(m) > MaxBands, api.ErrMany)); e != api.OK {
		return nil, e
	}
	return m, api.OK
}

// everything returns the bands of all offsets with some gains.
func everything(gains api.Interval) []Band {
	var bands []Band
	for i := range gains.High - gains.Low + 1 {
		bands = append(bands, Band{Gain: gains.Low + i, Offset: api.Interval{Low: -maxOffset, High: maxOffset}})
	}
	return bands
}

// permitted returns the bands of all pairs of some bands that spots permit.
func permitted(bands []Band, l ...Spot) []Band {
	var left []Band
	for _, b := range bands {
		for _, x := range l {
			b.Offset = common.Shared(b.Offset, x.offsets(b.Gain))
		}
		if b.Offset.Low <= b.Offset.High {
			left = append(left, b)
		}
	}
	return left
}

// Refined returns the part of a model that a further spot permits.
func Refined(m []Band, x Spot) ([]Band, api.Errno) {
	if e := common.First(CheckModel(m), x.check()); e != api.OK {
		return nil, e
	}
	left := permitted(m, x)
	if len(left) == 0 {
		return nil, api.ErrInfeasible
	}
	return left, api.OK
}

// Drifted returns a model whose offsets have drifted.
func Drifted(m []Band, by api.Interval) ([]Band, api.Errno) {
	if e := common.First(CheckModel(m), common.CheckInterval(by, -MaxPlace, MaxPlace)); e != api.OK {
		return nil, e
	}
	drifted := slices.Clone(m)
	for i := range drifted {
		offset := &drifted[i].Offset
		offset.Low += by.Low
		offset.High += by.High
	}
	// The gains are still in their order, so that only an offset can be wrong.
	if CheckModel(drifted) != api.OK {
		return nil, api.ErrLarge
	}
	return drifted, api.OK
}

// Pairs returns the number of pairs of a model.
func Pairs(m []Band) (int, api.Errno) {
	if e := CheckModel(m); e != api.OK {
		return 0, e
	}
	sum := 0
	for _, b := range m {
		sum += b.Offset.High - b.Offset.Low + 1
	}
	return sum, api.OK
}

// Has reports whether a model has a pair.
func Has(m []Band, gain, offset int) (bool, api.Errno) {
	if e := common.First(CheckModel(m), checkPair(gain, api.Interval{Low: offset, High: offset})); e != api.OK {
		return false, e
	}
	band, has := byGain(m)[gain]
	return has && band.Offset.Low <= offset && offset <= band.Offset.High, api.OK
}

// byGain returns the bands of a model, found by their gains.
func byGain(m []Band) map[int]Band {
	bands := map[int]Band{}
	for _, b := range m {
		bands[b.Gain] = b
	}
	return bands
}
