package aim

import (
	"slices"

	"spillage/api"
	"spillage/common"
)

// thousand is how many thousandths a unit of light has.
const thousand = 1000

// choice is an aim of a spot, with its least light and its worst lights.
type choice struct {
	aim   int
	least int
	worst []int
}

// choicesOf returns the aims that a spot can have in a best plan: standby is as
// good as one without light that is sure, and comes before it.
func choicesOf(r Receiver, s Spot) []choice {
	var choices []choice
	for aim := range s.Aims {
		x := aimedAt(s, aim)
		c := choice{aim: aim, least: x.least(r), worst: x.worst(r)}
		if c.least > 0 && isRight(r, c.worst) {
			choices = append(choices, c)
		}
	}
	return choices
}

// search is the search for the best plan.
type search struct {
	r       Receiver
	choices [][]choice
	// rest is the most light that the spots from an index on can give.
	rest []int
	// best is the best plan so far, and most its light.
	best []int
	most int
}

func searchOf(r Receiver, l []Spot) *search {
	s := &search{r: r, rest: make([]int, len(l)+1), best: slices.Repeat([]int{None}, len(l))}
	s.choices = common.Mapped(l, func(x Spot) []choice { return choicesOf(r, x) })
	for i, choices := range slices.Backward(s.choices) {
		s.rest[i] = s.rest[i+1]
		for _, c := range choices {
			s.rest[i] = max(s.rest[i], s.rest[i+1]+c.least)
		}
	}
	return s
}

// extend tries all plans that begin with some aims, which have a peak and a
// light, in their order; so of several best ones the first one stays.
func (s *search) extend(begin, peak []int, light int) {
	i := len(begin)
	if light+s.rest[i] <= s.most {
		return
	}
	if i == len(s.choices) {
		s.best, s.most = slices.Clone(begin), light
		return
	}
	s.extend(append(begin, None), peak, light)
	for _, c := range s.choices[i] {
		if next := added(peak, c.worst); isRight(s.r, next) {
			s.extend(append(begin, c.aim), next, light+c.least)
		}
	}
}

// Plan returns the best plan.
func Plan(r Receiver, l []Spot) ([]int, api.Errno) {
	e := common.First(CheckSpots(r, l), common.When(len(l) > api.MaxExact, api.ErrLimit))
	if e != api.OK {
		return nil, e
	}
	s := searchOf(r, l)
	s.extend(nil, make([]int, len(r.Limits)), 0)
	return s.best, api.OK
}

func checkPrices(r Receiver, prices []int) api.Errno {
	return common.First(
		common.When(len(prices) != len(r.Limits), api.ErrShape),
		checkAll(prices, MaxPrice),
	)
}

// worth returns the sum of prices times amounts.
func worth(prices, amounts []int) int {
	sum := 0
	for i, price := range prices {
		sum += price * amounts[i]
	}
	return sum
}

func boundOf(r Receiver, l []Spot, prices []int) int {
	bound := worth(prices, r.Limits)
	for _, s := range l {
		most := 0
		for aim := range s.Aims {
			x := aimedAt(s, aim)
			most = max(most, thousand*x.least(r)-worth(prices, x.worst(r)))
		}
		bound += most
	}
	return bound
}

// Bound returns the bound that prices prove.
func Bound(r Receiver, l []Spot, prices []int) (int, api.Errno) {
	if e := common.First(CheckSpots(r, l), checkPrices(r, prices)); e != api.OK {
		return 0, e
	}
	return boundOf(r, l, prices), api.OK
}

// Gap returns how far below the bound of prices a plan is.
func Gap(r Receiver, l []Spot, p, prices []int) (int, api.Errno) {
	if e := common.First(checkPlans(r, l, p), checkPrices(r, prices)); e != api.OK {
		return 0, e
	}
	if e := checkRight(r, l, p); e != api.OK {
		return 0, e
	}
	return boundOf(r, l, prices) - thousand*lightOf(r, l, p), api.OK
}
