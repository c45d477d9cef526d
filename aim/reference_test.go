package aim_test

import (
	"slices"

	"spillage/aim"
	"spillage/api"
)

// The functions of this file are the chapter's definitions, tile by tile and plan by plan, without a thought of how long they take.

// gives returns what a spot gives to a tile if it is aimed at a place.
func gives(x aim.Spot, place, tile api.Point) int {
	column, row := tile.X-place.X, tile.Y-place.Y
	if column < 0 || column >= x.Map.Width || row < 0 || row >= x.Map.Height {
		return 0
	}
	return int(16 * x.Map.Samples[row*x.Map.Width+column])
}

// shiftsOf returns the admitted shifts of a spot.
func shiftsOf(x aim.Spot) []api.Point {
	var l []api.Point
	for dy := -x.Wrong; dy <= x.Wrong; dy++ {
		for dx := -x.Wrong; dx <= x.Wrong; dx++ {
			l = append(l, at(dx, dy))
		}
	}
	return l
}

// fluxOf returns what each tile gets of a spot at one of its aims with a shift; of None it is nothing.
func fluxOf(r aim.Receiver, x aim.Spot, index int, shift api.Point) []int {
	l := flat(r.Width*r.Height, 0)
	if index == aim.None {
		return l
	}
	for i := range l {
		place := at(x.Aims[index].X+shift.X, x.Aims[index].Y+shift.Y)
		l[i] = gives(x, place, at(i%r.Width, i/r.Width))
	}
	return l
}

func sum(l []int) int {
	n := 0
	for _, x := range l {
		n += x
	}
	return n
}

// leastOf returns the least light of a spot at one of its aims.
func leastOf(r aim.Receiver, x aim.Spot, index int) int {
	var l []int
	for _, shift := range shiftsOf(x) {
		l = append(l, sum(fluxOf(r, x, index, shift)))
	}
	return slices.Min(l)
}

// worstOf returns the worst lights of a spot at one of its aims.
func worstOf(r aim.Receiver, x aim.Spot, index int) []int {
	worst := flat(r.Width*r.Height, 0)
	for _, shift := range shiftsOf(x) {
		for i, n := range fluxOf(r, x, index, shift) {
			worst[i] = max(worst[i], n)
		}
	}
	return worst
}

// lightOf returns the light of the map of a spot.
func lightOf(x aim.Spot) int {
	n := float32(0)
	for _, sample := range x.Map.Samples {
		n += 16 * sample
	}
	return int(n)
}

// totals returns for each tile the sum of what the spots of a plan give to it.
func totals(r aim.Receiver, l []aim.Spot, p []int, of func(r aim.Receiver, x aim.Spot, index int) []int) []int {
	out := flat(r.Width*r.Height, 0)
	for i, x := range l {
		for tile, n := range of(r, x, p[i]) {
			out[tile] += n
		}
	}
	return out
}

func totalFlux(r aim.Receiver, l []aim.Spot, p []int) []int {
	return totals(r, l, p, func(r aim.Receiver, x aim.Spot, index int) []int { return fluxOf(r, x, index, api.Point{}) })
}

func totalPeak(r aim.Receiver, l []aim.Spot, p []int) []int { return totals(r, l, p, worstOf) }

func totalLight(r aim.Receiver, l []aim.Spot, p []int) int {
	n := 0
	for i, x := range l {
		n += leastOf(r, x, p[i])
	}
	return n
}

func totalSpilled(r aim.Receiver, l []aim.Spot, p []int) int {
	n := -sum(totalFlux(r, l, p))
	for i, x := range l {
		if p[i] != aim.None {
			n += lightOf(x)
		}
	}
	return n
}

// hotTile returns the index of the first tile of a plan that can be too hot, or -1.
func hotTile(r aim.Receiver, l []aim.Spot, p []int) int {
	for tile, n := range totalPeak(r, l, p) {
		if n > r.Limits[tile] {
			return tile
		}
	}
	return -1
}

func isRight(r aim.Receiver, l []aim.Spot, p []int) bool { return hotTile(r, l, p) < 0 }

// allPlans returns all plans for spots in their order.
func allPlans(l []aim.Spot) [][]int {
	plans := [][]int{nil}
	for _, x := range l {
		var longer [][]int
		for _, p := range plans {
			for index := aim.None; index < len(x.Aims); index++ {
				longer = append(longer, append(slices.Clone(p), index))
			}
		}
		plans = longer
	}
	return plans
}

// bestPlan returns the best plan.
func bestPlan(r aim.Receiver, l []aim.Spot) []int {
	var best []int
	most := -1
	for _, p := range allPlans(l) {
		if n := totalLight(r, l, p); n > most && isRight(r, l, p) {
			best, most = p, n
		}
	}
	return best
}

// bound returns the bound of prices.
func bound(r aim.Receiver, l []aim.Spot, prices []int) int {
	n := 0
	for tile, price := range prices {
		n += price * r.Limits[tile]
	}
	for _, x := range l {
		gains := ints(0)
		for index := range x.Aims {
			gain := 1000 * leastOf(r, x, index)
			for tile, worst := range worstOf(r, x, index) {
				gain -= prices[tile] * worst
			}
			gains = append(gains, gain)
		}
		n += slices.Max(gains)
	}
	return n
}

// put returns a copy of a list with another number at an index.
func put(l []int, index, n int) []int {
	l = slices.Clone(l)
	l[index] = n
	return l
}

// released returns the mirrors that leave a plan.
func released(r aim.Receiver, l []aim.Spot, p []int) []int {
	tile := hotTile(r, l, p)
	if tile < 0 {
		return nil
	}
	first, most := -1, -1
	for i, x := range l {
		if n := worstOf(r, x, p[i])[tile]; p[i] != aim.None && n > most {
			first, most = i, n
		}
	}
	return append(ints(first), released(r, l, put(p, first, aim.None))...)
}

func differences(a, b []int) []int {
	var l []int
	for i := range a {
		if a[i] != b[i] {
			l = append(l, i)
		}
	}
	return l
}

// orders returns all orders of some numbers, the least first.
func orders(l []int) [][]int {
	if len(l) == 0 {
		return [][]int{nil}
	}
	var all [][]int
	for i, first := range l {
		for _, rest := range orders(slices.Concat(l[:i], l[i+1:])) {
			all = append(all, append(ints(first), rest...))
		}
	}
	return all
}

// isRightWay reports whether all plans on the way from one plan to another one are right, where a mirror is on standby before it has its new aim.
func isRightWay(r aim.Receiver, l []aim.Spot, a, b, order []int) bool {
	for _, mirror := range order {
		if !isRight(r, l, put(a, mirror, aim.None)) {
			return false
		}
		a = put(a, mirror, b[mirror])
		if !isRight(r, l, a) {
			return false
		}
	}
	return true
}

// firstOrder returns the first right order, or false if there is none.
func firstOrder(r aim.Receiver, l []aim.Spot, a, b []int) ([]int, bool) {
	for _, order := range orders(differences(a, b)) {
		if isRightWay(r, l, a, b, order) {
			return order, true
		}
	}
	return nil, false
}
