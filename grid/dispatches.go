package grid

import (
	"cmp"
	"iter"
	"maps"
	"slices"

	"spillage/api"
	"spillage/common"
)

func checkQuarter(q Quarter) api.Errno {
	return common.First(
		common.CheckRange(q.Price, -MaxPrice, MaxPrice),
		common.CheckRange(q.Heat, 0, MaxFlow),
	)
}

func checkQuarters(l []Quarter) api.Errno {
	return common.CheckList(l, MaxQuarters, checkQuarter)
}

// CheckOffers returns the first error of a plant and quarter hours, or OK.
func CheckOffers(p Plant, l []Quarter) api.Errno {
	return common.First(
		common.CheckRange(p.Storage, 0, MaxStorage),
		common.CheckRange(p.Level, 0, p.Storage),
		common.CheckRange(p.Most, 0, MaxFlow),
		checkQuarters(l),
	)
}

// checkAmounts returns ErrShape if there are not as many numbers as quarter hours,
// then ErrRange for the first one that is not from 0 to most.
func checkAmounts(l []int, quarters []Quarter, most int) api.Errno {
	return common.First(
		common.When(len(l) != len(quarters), api.ErrShape),
		common.CheckList(l, MaxQuarters, func(n int) api.Errno { return common.CheckRange(n, 0, most) }),
	)
}

// merit returns what counts of a result: what is spilled does not.
func (t Told) merit() Told {
	t.Spilled = 0
	return t
}

// plan is a dispatch of the quarter hours so far, with what it results in, and the
// levels before each of them and after the last one.
type plan struct {
	Told
	units  []int
	levels []int
}

// compare returns -1 for a plan that is better than another one.
func (x plan) compare(y plan) int {
	if x.merit() == y.merit() {
		return slices.Compare(x.units, y.units)
	}
	return cmp.Or(cmp.Compare(y.Income, x.Income), cmp.Compare(y.Left, x.Left))
}

// begun returns the plan of no quarter hours.
func (p Plant) begun() plan {
	return plan{Told: Told{Left: p.Level}, levels: []int{p.Level}}
}

// extended returns a plan with the units of a further quarter hour.
func (p Plant) extended(x plan, q Quarter, units int) plan {
	level := x.Left + q.Heat - units
	left := min(level, p.Storage)
	return plan{
		Told: Told{
			Income:  x.Income + q.Price*units,
			Left:    left,
			Spilled: x.Spilled + level - left,
		},
		units:  append(slices.Clone(x.units), units),
		levels: append(slices.Clone(x.levels), left),
	}
}

// followed returns the plan of a dispatch, or the first error of the plant, the
// quarter hours and the dispatch.
func followed(p Plant, l []Quarter, d []int) (plan, api.Errno) {
	e := common.First(CheckOffers(p, l), common.When(len(d) != len(l), api.ErrShape))
	if e != api.OK {
		return plan{}, e
	}
	x := p.begun()
	for i := range len(l) {
		e := common.First(
			common.CheckRange(d[i], 0, p.Most),
			common.When(d[i] > x.Left+l[i].Heat, api.ErrShort),
		)
		if e != api.OK {
			return plan{}, e
		}
		x = p.extended(x, l[i], d[i])
	}
	return x, api.OK
}

// CheckDispatch returns what a dispatch results in.
func CheckDispatch(p Plant, l []Quarter, d []int) (Told, api.Errno) {
	x, e := followed(p, l, d)
	return x.Told, e
}

// Levels returns the levels of the storage before each quarter hour, and after the last one.
func Levels(p Plant, l []Quarter, d []int) ([]int, api.Errno) {
	x, e := followed(p, l, d)
	return x.levels, e
}

// further visits all plans that some plans become by a further quarter hour.
func (p Plant) further(plans []plan, q Quarter) iter.Seq[plan] {
	return func(yield func(plan) bool) {
		for _, x := range plans {
			for units := range min(p.Most, x.Left+q.Heat) + 1 {
				if !yield(p.extended(x, q, units)) {
					return
				}
			}
		}
	}
}

// Dispatch returns the best dispatch, and what it results in.
func Dispatch(p Plant, l []Quarter) ([]int, Told, api.Errno) {
	if e := CheckOffers(p, l); e != api.OK {
		return nil, Told{}, e
	}
	// Whatever comes later depends on the level alone, so that of the plans that
	// leave the same level the best one is enough.
	plans := []plan{p.begun()}
	for _, q := range l {
		best := map[int]plan{}
		for x := range p.further(plans, q) {
			if y, found := best[x.Left]; !found || x.compare(y) < 0 {
				best[x.Left] = x
			}
		}
		plans = slices.SortedFunc(maps.Values(best), plan.compare)
	}
	return plans[0].units, plans[0].Told, api.OK
}

// Bound returns the income that no dispatch exceeds, by values of heat.
func Bound(p Plant, l []Quarter, values []int) (int, api.Errno) {
	if e := common.First(CheckOffers(p, l), checkAmounts(values, l, MaxPrice)); e != api.OK {
		return 0, e
	}
	// The first value counts as one that rises from 0, for what there is; the later
	// ones rise for all that there may be.
	bound, stored, before := 0, p.Level, 0
	for i := range len(l) {
		value := values[i]
		bound += p.Most*max(l[i].Price-value, 0) + value*l[i].Heat + stored*max(value-before, 0)
		stored, before = p.Storage, value
	}
	return bound, api.OK
}

// Settled returns the bill of what was delivered, and the shortfalls.
func Settled(l []Quarter, offered, delivered []int, fine int) (int, []Shortfall, api.Errno) {
	e := common.First(
		checkQuarters(l),
		checkAmounts(offered, l, MaxFlow),
		checkAmounts(delivered, l, MaxFlow),
		common.CheckRange(fine, 0, MaxPrice),
	)
	if e != api.OK {
		return 0, nil, e
	}
	bill := 0
	var shortfalls []Shortfall
	for i := range len(l) {
		bill += l[i].Price * delivered[i]
		if by := offered[i] - delivered[i]; by > 0 {
			bill -= fine * by
			shortfalls = append(shortfalls, Shortfall{Quarter: i, By: by})
		}
	}
	return bill, shortfalls, api.OK
}
