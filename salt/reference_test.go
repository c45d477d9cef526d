package salt_test

import (
	"math/big"
	"slices"

	"spillage/api"
	"spillage/salt"
)

// What the tests compare results with: the definitions of the chapter, followed as plainly as possible.

// stateAfter returns the state after an act in a state, and whether it is permitted.
func stateAfter(act, state string) (string, bool) {
	switch {
	case act == wait:
		return state, true
	case act == fill && state == empty, act == stop && state == running:
		return filled, true
	case act == drain && state == filled:
		return empty, true
	case act == start && state == filled:
		return running, true
	}
	return "", false
}

// lowered returns a times b / c, rounded down, for c above 0.
func lowered(a, b, c int) int {
	x := new(big.Int).Mul(big.NewInt(int64(a)), big.NewInt(int64(b)))
	return int(x.Div(x, big.NewInt(int64(c))).Int64()) // Div rounds down for a divisor above 0
}

// steppedOf follows a step with right arguments.
func steppedOf(r salt.Rules, x salt.Receiver, s salt.Step) (salt.Receiver, salt.Balance, api.Errno) {
	state, permitted := stateAfter(s.Act, x.State)
	if !permitted {
		return salt.Receiver{}, salt.Balance{}, api.ErrState
	}
	if s.Act == fill && x.Heat < r.Ready*r.Capacity {
		return salt.Receiver{}, salt.Balance{}, api.ErrBand
	}
	if s.Flow != 0 && state != running {
		return salt.Receiver{}, salt.Balance{}, api.ErrRule
	}
	heat, b := x.Heat, salt.Balance{}
	if state == running {
		b.Taken = lowered(s.Flow, x.Heat, r.Capacity) - s.Flow*r.Cold
		heat -= b.Taken
	}
	heat += s.Light
	for range r.Loss {
		if heat > 0 {
			heat--
			b.Lost++
		}
	}
	degrees := lowered(heat, 1, r.Capacity)
	switch {
	case heat > 1000000000:
		return salt.Receiver{}, salt.Balance{}, api.ErrLarge
	case state != empty && degrees < r.Freeze:
		return salt.Receiver{}, salt.Balance{}, api.ErrHeld
	case degrees > r.Hot:
		return salt.Receiver{}, salt.Balance{}, api.ErrOver
	}
	return at(state, heat), b, api.OK
}

// runOf follows steps with right arguments.
func runOf(r salt.Rules, x salt.Receiver, l []salt.Step) (salt.Receiver, salt.Balance, int, api.Errno) {
	var sum salt.Balance
	for i, s := range l {
		y, b, e := steppedOf(r, x, s)
		if e != api.OK {
			return salt.Receiver{}, salt.Balance{}, i, e
		}
		x, sum.Taken, sum.Lost = y, sum.Taken+b.Taken, sum.Lost+b.Lost
	}
	return x, sum, 0, api.OK
}

// runsOf follows told steps with each light of their intervals, and calls use for each way.
func runsOf(r salt.Rules, x salt.Receiver, l []salt.Told, done []salt.Step, use func(l []salt.Step)) {
	if len(done) == len(l) {
		use(done)
		return
	}
	t := l[len(done)]
	for light := t.Light.Low; light <= t.Light.High; light++ {
		runsOf(r, x, l, append(done, step(t.Act, light, t.Flow)), use)
	}
}

// sureOf tries all lights: the heats that there may be, or the first index at which one fails, and the error of the least or the greatest light.
func sureOf(r salt.Rules, x salt.Receiver, l []salt.Told) (heats api.Interval, first int, e api.Errno) {
	heats, first = to(1<<60, -1), len(l)
	runsOf(r, x, l, nil, func(l []salt.Step) {
		y, _, i, e := runOf(r, x, l)
		if e != api.OK {
			first = min(first, i)
		} else {
			heats = to(min(heats.Low, y.Heat), max(heats.High, y.Heat))
		}
	})
	if first == len(l) {
		return heats, 0, api.OK
	}
	for _, light := range []func(x api.Interval) int{least, greatest} {
		if _, _, _, e = runOf(r, x, lit(l, light)[:first+1]); e != api.OK {
			break
		}
	}
	return api.Interval{}, first, e
}

func least(x api.Interval) int { return x.Low }

func greatest(x api.Interval) int { return x.High }

// holdOf counts the steps of a receiver that is not frozen.
func holdOf(r salt.Rules, x salt.Receiver) int {
	n := 0
	for heat := x.Heat - r.Loss; heat >= 0 && lowered(heat, 1, r.Capacity) >= r.Freeze; heat -= r.Loss {
		n++
	}
	return n
}

// turnsOf walks along a history, and notes where its way changes.
func turnsOf(l []int) []int {
	var out []int
	way := 0
	for i, n := range l {
		if i == 0 {
			out = ints(n)
			continue
		}
		next := compare(n, l[i-1])
		switch {
		case next == 0:
		case next == way:
			out[len(out)-1] = n
		default:
			out = append(out, n)
			way = next
		}
	}
	return out
}

func compare(a, b int) int {
	switch {
	case a > b:
		return 1
	case a < b:
		return -1
	}
	return 0
}

func span(a, b int) int {
	return max(a-b, b-a)
}

// rainflowOf takes away the cycle of the first four successive turns that have one, as long as there are such.
func rainflowOf(l []int) ([]salt.Cycle, []int) {
	left := turnsOf(l)
	var out []salt.Cycle
	for i := 0; i+3 < len(left); {
		a, b, c, d := left[i], left[i+1], left[i+2], left[i+3]
		if span(b, c) > span(a, b) || span(b, c) > span(c, d) {
			i++
			continue
		}
		out = append(out, salt.Cycle{From: b, To: c})
		left = slices.Concat(left[:i+1], left[i+3:])
		i = 0
	}
	return out, left
}

// classOf returns the index of the last class with at most a range, or -1.
func classOf(span int, l []salt.Class) int {
	for i := len(l) - 1; i >= 0; i-- {
		if l[i].Range <= span {
			return i
		}
	}
	return -1
}

func countedOf(l []salt.Cycle, classes []salt.Class) []int {
	out := make([]int, len(classes))
	for _, c := range l {
		if i := classOf(span(c.From, c.To), classes); i >= 0 {
			out[i]++
		}
	}
	return out
}

func damageOf(l []salt.Cycle, rest []int, classes []salt.Class) int {
	sum := 0
	for i, n := range countedOf(l, classes) {
		sum += 2 * n * classes[i].Damage
	}
	for i := range rest {
		if i > 0 {
			for k, n := range countedOf(cycles(rest[i-1], rest[i]), classes) {
				sum += n * classes[k].Damage
			}
		}
	}
	return sum
}

func warmthOf(x salt.Layer) *big.Rat { return big.NewRat(int64(x.Heat), int64(x.Amount)) }

// heldOf returns all amounts, and all heat, of layers.
func heldOf(l []salt.Layer) (amount, heat int) {
	for _, x := range l {
		amount, heat = amount+x.Amount, heat+x.Heat
	}
	return amount, heat
}

// togetherOf joins the lowest two layers that are not in order, as long as there are such.
func togetherOf(l []salt.Layer) []salt.Layer {
	for i := 0; i+1 < len(l); {
		if warmthOf(l[i]).Cmp(warmthOf(l[i+1])) < 0 {
			i++
			continue
		}
		amount, heat := heldOf(l[i : i+2])
		l = slices.Concat(l[:i], []salt.Layer{{Amount: amount, Heat: heat}}, l[i+2:])
		i = 0
	}
	return l
}

// chargedOf looks for the place of a layer, or for one that is as warm.
func chargedOf(t salt.Tank, amount, heat int) salt.Tank {
	further := salt.Layer{Amount: amount, Heat: heat}
	for i, x := range t.Layers {
		switch warmthOf(x).Cmp(warmthOf(further)) {
		case 0:
			t.Layers = slices.Clone(t.Layers)
			t.Layers[i] = salt.Layer{Amount: x.Amount + amount, Heat: x.Heat + heat}
			return t
		case 1:
			t.Layers = slices.Concat(t.Layers[:i], []salt.Layer{further}, t.Layers[i:])
			return t
		}
	}
	t.Layers = slices.Concat(t.Layers, []salt.Layer{further})
	return t
}

// drawnOf takes one layer after the other.
func drawnOf(t salt.Tank, amount int, top bool) (salt.Tank, int) {
	l, drawn := slices.Clone(t.Layers), 0
	for amount > 0 {
		i := 0
		if top {
			i = len(l) - 1
		}
		if l[i].Amount <= amount {
			amount, drawn = amount-l[i].Amount, drawn+l[i].Heat
			l = slices.Delete(l, i, i+1)
			continue
		}
		part := lowered(l[i].Heat, amount, l[i].Amount)
		l[i].Amount, l[i].Heat = l[i].Amount-amount, l[i].Heat-part
		amount, drawn = 0, drawn+part
	}
	return salt.Tank{Room: t.Room, Layers: togetherOf(l)}, drawn
}

func cooledOf(t salt.Tank, num, den int) (salt.Tank, int) {
	l, lost := slices.Clone(t.Layers), 0
	for i, x := range l {
		part := lowered(x.Heat, num, den)
		l[i].Heat, lost = x.Heat-part, lost+part
	}
	return salt.Tank{Room: t.Room, Layers: togetherOf(l)}, lost
}
