package field

import (
	"cmp"
	"slices"

	"spillage/api"
	"spillage/common"
	"spillage/light"
)

// The indices of what Lit counts.
const (
	darkCount = iota
	blockedCount
	leftCount
)

// Lit returns how many facets of a mirror are dark, are blocked alone, and are left.
func Lit(l []Mirror, mirror int, sun, target api.Vector, k int) ([3]int, api.Errno) {
	e := common.First(CheckMirrors(l), checkIndex(l, mirror), checkLight(sun, target, k))
	if e != api.OK {
		return [3]int{}, e
	}
	return lit(l, mirror, sun, target, k), api.OK
}

func checkLight(sun, target api.Vector, k int) api.Errno {
	return common.First(
		common.CheckDirection(sun, MaxAlong),
		common.CheckVector(target, MaxPlace),
		checkCount(k),
	)
}

func lit(l []Mirror, mirror int, sun, target api.Vector, k int) [3]int {
	var counts [3]int
	isBlocked := blocked(l, mirror, target, k)
	for i, isDark := range dark(l, mirror, sun, k) {
		switch {
		case isDark:
			counts[darkCount]++
		case isBlocked[i]:
			counts[blockedCount]++
		default:
			counts[leftCount]++
		}
	}
	return counts
}

// entry is the index of a mirror, with the number by which it is sorted.
type entry struct {
	index, by int
}

func (x entry) compare(y entry) int {
	return cmp.Compare(x.by, y.by)
}

// sortedIndices returns the indices of entries, that with the least number
// first, of several in their own order.
func sortedIndices(l []entry) []int {
	slices.SortStableFunc(l, entry.compare)
	return common.Mapped(l, func(x entry) int { return x.index })
}

// Ranked returns the mirrors by the facets that are left.
func Ranked(l []Mirror, sun, target api.Vector, k int) ([]int, api.Errno) {
	if e := common.First(CheckMirrors(l), checkLight(sun, target, k)); e != api.OK {
		return nil, e
	}
	var entries []entry
	for i := range l {
		left := lit(l, i, sun, target, k)[leftCount]
		entries = append(entries, entry{index: i, by: -left})
	}
	return sortedIndices(entries), api.OK
}

// Neighbours returns the nearest mirrors.
func Neighbours(l []Mirror, mirror, n int) ([]int, api.Errno) {
	e := common.First(CheckMirrors(l), checkIndex(l, mirror), common.CheckRange(n, 0, MaxMirrors))
	if e != api.OK {
		return nil, e
	}
	var entries []entry
	for i, m := range l {
		if i != mirror {
			entries = append(entries, entry{index: i, by: distance(l[mirror], m)})
		}
	}
	nearest := sortedIndices(entries)
	return nearest[:min(n, len(nearest))], api.OK
}

// distance returns the square of the distance of two mirrors.
func distance(a, b Mirror) int {
	difference := common.PartsOf(a.Centre).Plus(common.PartsOf(b.Centre).Times(-1))
	return difference.Dot(difference)
}

// Efficiency returns the product of shares.
func Efficiency(l []api.Ratio) (api.Ratio, api.Errno) {
	if e := common.CheckList(l, MaxShares, checkShare); e != api.OK {
		return api.Ratio{}, e
	}
	product := api.Ratio{Num: 1, Den: 1}
	for _, x := range l {
		product = common.Quotient(product.Num*x.Num, product.Den*x.Den)
	}
	return product, api.OK
}

func checkShare(x api.Ratio) api.Errno {
	return common.First(
		light.CheckRatio(x),
		common.CheckRange(x.Num, 0, x.Den),
		common.When(x.Den > MaxTerm, api.ErrRange),
	)
}

// Summed returns the weighted mean of readings.
func Summed(l []Reading) (api.Ratio, api.Errno) {
	if e := common.CheckList(l, MaxReadings, Reading.check); e != api.OK {
		return api.Ratio{}, e
	}
	left, facets := 0, 0
	for _, x := range l {
		left += x.Left * x.Weight
		facets += x.Facets * x.Weight
	}
	// A reading has at least one facet, so that the sum is 0 only without weights.
	if facets == 0 {
		return api.Ratio{}, api.ErrNone
	}
	return common.Quotient(left, facets), api.OK
}

// check returns the first error of a reading, or OK.
func (x Reading) check() api.Errno {
	return common.First(
		common.CheckRange(x.Facets, 1, MaxFacets*MaxFacets),
		common.CheckRange(x.Left, 0, x.Facets),
		common.CheckRange(x.Weight, 0, MaxTerm),
	)
}
