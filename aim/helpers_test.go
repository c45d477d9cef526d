package aim_test

import (
	"math"
	"math/rand"
	"reflect"
	"slices"
	"strconv"

	"spillage/aim"
	"spillage/api"
	"spillage/expect"
	"spillage/light"
)

func at(x, y int) api.Point { return api.Point{X: x, Y: y} }

// points returns the points with pairs of coordinates.
func points(l ...int) []api.Point {
	var p []api.Point
	for pair := range slices.Chunk(l, 2) {
		p = append(p, at(pair[0], pair[1]))
	}
	return p
}

func ints(l ...int) []int { return l }

// flat returns n numbers that are all the same.
func flat(n, x int) []int { return slices.Repeat(ints(x), n) }

// table returns a map of samples with some integers.
func table(width, height int, l ...int) light.Map {
	m := light.Map{Width: width, Height: height}
	for _, n := range l {
		m.Samples = append(m.Samples, float32(n)/16)
	}
	return m
}

func receiver(width, height int, limits ...int) aim.Receiver {
	return aim.Receiver{Width: width, Height: height, Limits: limits}
}

// shown returns the receiver R of the chapter's examples, with a limit in the middle.
func shown(middle int) aim.Receiver { return receiver(3, 1, 40, middle, 40) }

// spotS and spotT are the spots S and T of the chapter's examples.
func spotS() aim.Spot {
	return aim.Spot{Name: "s", Map: table(2, 1, 16, 32), Aims: points(0, 0, 1, 0, 2, 0)}
}

func spotT() aim.Spot {
	return aim.Spot{Name: "t", Map: table(1, 1, 24), Aims: points(0, 0, 1, 0), Wrong: 1}
}

func spots(l ...aim.Spot) []aim.Spot { return l }

// pixel returns a spot without errors that gives an integer to one tile, at the points 0 to 5 of the first row.
func pixel(name string, n int) aim.Spot {
	return aim.Spot{Name: name, Map: table(1, 1, n), Aims: points(0, 0, 1, 0, 2, 0, 3, 0, 4, 0, 5, 0)}
}

// pixels returns n such spots with other names.
func pixels(n, light int) []aim.Spot {
	var l []aim.Spot
	for i := range n {
		l = append(l, pixel("m"+strconv.Itoa(i), light))
	}
	return l
}

// greatest is a spot at the limits of all its parts.
func greatest() aim.Spot {
	return aim.Spot{Name: "Abcdefghij_lmnopqrstuvw9", Map: table(8, 8, flat(64, 16384)...), Aims: points(-100, -100, 100, 100, -100, 100, 100, -100, 0, 0, -3, -3), Wrong: 3}
}

// altered returns the spot S after a change.
func altered(change func(x *aim.Spot)) aim.Spot {
	x := spotS()
	change(&x)
	return x
}

type wrong[T any] struct {
	x T
	e api.Errno
}

// withBad returns copies of a list in which one number, at each place, is not from 0 to most.
func withBad(l []int, most int) [][]int {
	var out [][]int
	for i := range l {
		for _, n := range expect.Outside(0, most) {
			bad := slices.Clone(l)
			bad[i] = n
			out = append(out, bad)
		}
	}
	return out
}

func wrongReceivers() []wrong[aim.Receiver] {
	l := []wrong[aim.Receiver]{
		{aim.Receiver{}, api.ErrRange}, {receiver(0, 0), api.ErrRange}, {receiver(0, 9), api.ErrRange}, {receiver(9, 0), api.ErrRange}, {receiver(-1, -3, 40, 60, 40), api.ErrRange}, {receiver(9, 1, flat(9, 1)...), api.ErrRange}, {receiver(1, 9, flat(9, 1)...), api.ErrRange},
		{receiver(1<<32, 1<<32), api.ErrRange}, {receiver(3, 1), api.ErrShape}, {receiver(3, 1, 40, 60), api.ErrShape}, {receiver(3, 1, 40, 60, 40, 40), api.ErrShape}, {receiver(1, 3, -1), api.ErrShape}, {receiver(2, 2, -1, 40, 60), api.ErrShape}, {receiver(8, 8, flat(63, 1)...), api.ErrShape}, {receiver(8, 8, flat(65, -1)...), api.ErrShape}, {receiver(1, 1, flat(100000, -1)...), api.ErrShape},
	}
	for _, n := range expect.Outside(1, 8) {
		l = append(l, wrong[aim.Receiver]{receiver(n, 1, 40, 60, 40), api.ErrRange}, wrong[aim.Receiver]{receiver(3, n, 40, 60, 40), api.ErrRange}, wrong[aim.Receiver]{receiver(n, n, -1), api.ErrRange})
	}
	for _, bad := range withBad(ints(40, 60, 40), 1000000) {
		l = append(l, wrong[aim.Receiver]{receiver(3, 1, bad...), api.ErrRange}, wrong[aim.Receiver]{receiver(1, 3, bad...), api.ErrRange})
	}
	return l
}

func wrongSpots() []wrong[aim.Spot] {
	var l []wrong[aim.Spot]
	add := func(e api.Errno, change func(x *aim.Spot)) {
		l = append(l, wrong[aim.Spot]{altered(change), e})
	}
	for _, name := range []string{"", "7", "_a", "a b", "a-b", "s\n", "\xff", "\u00e4", "abcdefghijklmnopqrstuvwxy"} {
		add(api.ErrName, func(x *aim.Spot) { x.Name = name })
		add(api.ErrName, func(x *aim.Spot) { *x = aim.Spot{Name: name, Wrong: -1} })
	}
	addWrongMaps(add)
	addWrongAims(add)
	for _, n := range expect.Outside(0, 3) {
		add(api.ErrRange, func(x *aim.Spot) { x.Wrong = n })
		add(api.ErrTwice, func(x *aim.Spot) { x.Wrong, x.Aims[1] = n, x.Aims[0] })
		add(api.ErrEmpty, func(x *aim.Spot) { x.Wrong, x.Aims = n, nil })
	}
	return l
}

func addWrongMaps(add func(e api.Errno, change func(x *aim.Spot))) {
	noAims := func(m light.Map) func(x *aim.Spot) { return func(x *aim.Spot) { x.Map, x.Aims = m, nil } }
	for _, x := range []wrong[light.Map]{
		{light.Map{}, api.ErrRange}, {table(0, 1), api.ErrRange}, {table(1, 65, flat(65, 1)...), api.ErrRange}, {table(65, 1, flat(65, 1)...), api.ErrRange}, {table(3, 1, 16, 32), api.ErrShape}, {table(2, 2, 16, 32), api.ErrShape}, {table(9, 1, 16), api.ErrShape}, {table(2, 1, 16, 32, -1), api.ErrShape},
		{light.Map{Width: 2, Height: 1, Samples: []float32{-1, float32(math.NaN())}}, api.ErrForm}, {light.Map{Width: 1, Height: 1, Samples: []float32{float32(math.Inf(1))}}, api.ErrForm}, {light.Map{Width: 9, Height: 1, Samples: append(make([]float32, 8), float32(math.Inf(-1)))}, api.ErrForm},
		{light.Map{Width: 2, Height: 1, Samples: []float32{1, 0.03125}}, api.ErrRange}, {table(2, 1, 16, 16385), api.ErrRange}, {table(9, 1, append(flat(8, 1), 16385)...), api.ErrRange},
		{table(9, 1, flat(9, 1)...), api.ErrLarge}, {table(1, 9, flat(9, 1)...), api.ErrLarge}, {table(9, 9, flat(81, 1)...), api.ErrLarge}, {table(64, 64, flat(4096, -1)...), api.ErrLarge}, {table(9, 1, flat(9, -1)...), api.ErrLarge}, {table(1, 9, flat(9, -1)...), api.ErrLarge},
		{table(1, 1, -1), api.ErrRange}, {table(2, 1, 32, -1), api.ErrRange}, {table(2, 1, -16384, 1), api.ErrRange}, {table(8, 8, append(flat(63, 1), -1)...), api.ErrRange},
	} {
		add(x.e, func(s *aim.Spot) { s.Map = x.x })
		add(x.e, noAims(x.x))
	}
}

func addWrongAims(add func(e api.Errno, change func(x *aim.Spot))) {
	aims := func(l ...int) func(x *aim.Spot) { return func(x *aim.Spot) { x.Aims = points(l...) } }
	add(api.ErrEmpty, aims())
	add(api.ErrEmpty, func(x *aim.Spot) { x.Aims = []api.Point{} })
	add(api.ErrMany, aims(0, 0, 1, 0, 2, 0, 3, 0, 4, 0, 5, 0, 6, 0))
	add(api.ErrMany, func(x *aim.Spot) { x.Aims = make([]api.Point, 7) })
	add(api.ErrMany, func(x *aim.Spot) { x.Aims = slices.Repeat(points(999, 0), 100000) })
	for _, n := range expect.Outside(-100, 100) {
		add(api.ErrRange, aims(n, 0))
		add(api.ErrRange, aims(0, n))
		add(api.ErrRange, aims(n, n, 0, 0, 0, 0))
		add(api.ErrRange, aims(0, 0, 1, 0, 2, 0, 3, 0, 4, 0, n, 0))
		add(api.ErrRange, aims(0, 0, 1, 0, 0, n, 1, 0))
		add(api.ErrTwice, aims(0, 0, 0, 0, n, 0))
	}
	add(api.ErrTwice, aims(0, 0, 0, 0))
	add(api.ErrTwice, aims(1, 2, 2, 1, 1, 2))
	add(api.ErrTwice, aims(0, 0, 1, 0, 2, 0, 3, 0, 4, 0, 4, 0))
	add(api.ErrTwice, aims(-100, 100, 1, 0, 2, 0, 3, 0, 4, 0, -100, 100))
}

func wrongLists() []wrong[[]aim.Spot] {
	named := func(name string, x aim.Spot) aim.Spot { x.Name = name; return x }
	l := []wrong[[]aim.Spot]{
		{pixels(33, 1), api.ErrMany}, {make([]aim.Spot, 33), api.ErrMany}, {slices.Repeat(spots(spotS()), 33), api.ErrMany}, {make([]aim.Spot, 10000), api.ErrMany}, {make([]aim.Spot, 1), api.ErrName}, {make([]aim.Spot, 2), api.ErrName},
		{spots(spotS(), spotS()), api.ErrTwice}, {spots(spotS(), spotT(), named("s", spotT())), api.ErrTwice}, {spots(spotT(), named("t", spotS()), aim.Spot{}), api.ErrTwice}, {append(pixels(31, 1), named("m0", spotT())), api.ErrTwice}, {spots(spotS(), named("s", altered(func(x *aim.Spot) { x.Wrong = 4 }))), api.ErrRange}, {spots(spotS(), altered(func(x *aim.Spot) { x.Aims = nil }), spotS()), api.ErrEmpty},
	}
	for _, x := range wrongSpots() {
		l = append(l, wrong[[]aim.Spot]{spots(x.x, spotT()), x.e}, wrong[[]aim.Spot]{spots(spotT(), pixel("u", 1), x.x, spotT(), aim.Spot{}), x.e})
	}
	return l
}

// wrongPlans are plans that are none for the spots S and T.
func wrongPlans() []wrong[[]int] {
	l := []wrong[[]int]{
		{nil, api.ErrShape}, {ints(), api.ErrShape}, {ints(0), api.ErrShape}, {ints(9), api.ErrShape}, {ints(0, 0, 0), api.ErrShape}, {ints(9, 9, 9), api.ErrShape}, {ints(-2, 0, -1), api.ErrShape}, {make([]int, 100000), api.ErrShape},
		{ints(3, 0), api.ErrUnknown}, {ints(0, 2), api.ErrUnknown}, {ints(-2, 0), api.ErrUnknown}, {ints(-1, -2), api.ErrUnknown}, {ints(-1, 3), api.ErrUnknown}, {ints(3, 2), api.ErrUnknown},
	}
	for _, n := range expect.Outside(-1, 2) {
		l = append(l, wrong[[]int]{ints(n, 0), api.ErrUnknown}, wrong[[]int]{ints(-1, n), api.ErrUnknown})
	}
	return l
}

// wrongPrices are prices that are none for three tiles.
func wrongPrices() []wrong[[]int] {
	l := []wrong[[]int]{{nil, api.ErrShape}, {ints(0, 0), api.ErrShape}, {ints(-1, 0), api.ErrShape}, {ints(0, 0, 0, 0), api.ErrShape}, {flat(100000, -1), api.ErrShape}}
	for _, bad := range withBad(ints(0, 100000, 7), 100000) {
		l = append(l, wrong[[]int]{bad, api.ErrRange})
	}
	return l
}

func wrongOrders() []wrong[[]int] {
	return []wrong[[]int]{{flat(33, 0), api.ErrMany}, {flat(33, -1), api.ErrMany}, {flat(100000, 1), api.ErrMany}}
}

// wrongIndices are the indices of no aim of the spot S.
func wrongIndices() []wrong[int] {
	var l []wrong[int]
	for _, n := range expect.Outside(0, 2) {
		l = append(l, wrong[int]{n, api.ErrUnknown})
	}
	return l
}

// arguments are what the functions of the package take.
type arguments struct {
	r             aim.Receiver
	s             aim.Spot
	index         int
	l             []aim.Spot
	p, q          []int
	prices, order []int
}

func rightArguments() arguments {
	return arguments{r: shown(60), s: spotS(), index: 1, l: spots(spotS(), spotT()), p: ints(0, aim.None), q: ints(1, 0), prices: ints(1000, 0, 0), order: ints(0, 1)}
}

// fault makes an argument wrong, which gives an error.
type fault = expect.Fault[arguments]

func faultsOf[T any](l []wrong[T], put func(a *arguments, x T)) []fault {
	var faults []fault
	for _, x := range l {
		faults = append(faults, fault{Spoil: func(a *arguments) { put(a, x.x) }, Err: x.e})
	}
	return faults
}

// faults returns the faults of each argument.
func faults() map[string][]fault {
	return map[string][]fault{
		"receiver": faultsOf(wrongReceivers(), func(a *arguments, x aim.Receiver) { a.r = x }),
		"spot":     faultsOf(wrongSpots(), func(a *arguments, x aim.Spot) { a.s = x }),
		"index":    faultsOf(wrongIndices(), func(a *arguments, x int) { a.index = x }),
		"spots":    faultsOf(wrongLists(), func(a *arguments, x []aim.Spot) { a.l = x }),
		"plan":     faultsOf(wrongPlans(), func(a *arguments, x []int) { a.p = x }),
		"second":   faultsOf(wrongPlans(), func(a *arguments, x []int) { a.q = x }),
		"prices":   faultsOf(wrongPrices(), func(a *arguments, x []int) { a.prices = x }),
		"order":    faultsOf(wrongOrders(), func(a *arguments, x []int) { a.order = x }),
	}
}

func calls() []expect.Call[arguments] {
	single := []string{"receiver", "spot", "index"}
	plan := []string{"receiver", "spots", "plan"}
	plans := append(plan[:3:3], "second")
	return []expect.Call[arguments]{
		{What: "CheckReceiver", Takes: single[:1], Do: func(a arguments) ([]any, api.Errno) { return expect.None(aim.CheckReceiver(a.r)) }},
		{What: "CheckSpots", Takes: plan[:2], Do: func(a arguments) ([]any, api.Errno) { return expect.None(aim.CheckSpots(a.r, a.l)) }},
		{What: "Share", Takes: single, Do: func(a arguments) ([]any, api.Errno) { return expect.Two(aim.Share(a.r, a.s, a.index)) }},
		{What: "Least", Takes: single, Do: func(a arguments) ([]any, api.Errno) { return expect.One(aim.Least(a.r, a.s, a.index)) }},
		{What: "Worst", Takes: single, Do: func(a arguments) ([]any, api.Errno) { return expect.One(aim.Worst(a.r, a.s, a.index)) }},
		{What: "Flux", Takes: plan, Do: func(a arguments) ([]any, api.Errno) { return expect.One(aim.Flux(a.r, a.l, a.p)) }},
		{What: "Peak", Takes: plan, Do: func(a arguments) ([]any, api.Errno) { return expect.One(aim.Peak(a.r, a.l, a.p)) }},
		{What: "CheckPlan", Takes: plan, Do: func(a arguments) ([]any, api.Errno) { return expect.None(aim.CheckPlan(a.r, a.l, a.p)) }},
		{What: "Exceeds", Takes: plan, Err: api.ErrNone, Do: func(a arguments) ([]any, api.Errno) { return expect.One(aim.Exceeds(a.r, a.l, a.p)) }},
		{What: "Light", Takes: plan, Do: func(a arguments) ([]any, api.Errno) { return expect.One(aim.Light(a.r, a.l, a.p)) }},
		{What: "Spilled", Takes: plan, Do: func(a arguments) ([]any, api.Errno) { return expect.One(aim.Spilled(a.r, a.l, a.p)) }},
		{What: "Plan", Takes: plan[:2], Do: func(a arguments) ([]any, api.Errno) { return expect.One(aim.Plan(a.r, a.l)) }},
		{What: "Bound", Takes: []string{"receiver", "spots", "prices"}, Do: func(a arguments) ([]any, api.Errno) { return expect.One(aim.Bound(a.r, a.l, a.prices)) }},
		{What: "Gap", Takes: append(plan[:3:3], "prices"), Do: func(a arguments) ([]any, api.Errno) { return expect.One(aim.Gap(a.r, a.l, a.p, a.prices)) }},
		{What: "Released", Takes: plan, Do: func(a arguments) ([]any, api.Errno) { return expect.One(aim.Released(a.r, a.l, a.p)) }},
		{What: "Steps", Takes: plans, Do: func(a arguments) ([]any, api.Errno) { return expect.One(aim.Steps(a.r, a.l, a.p, a.q)) }},
		{What: "CheckSteps", Takes: append(plans[:4:4], "order"), Do: func(a arguments) ([]any, api.Errno) {
			return expect.None(aim.CheckSteps(a.r, a.l, a.p, a.q, a.order))
		}},
		{What: "Differences", Takes: plans[1:], Do: func(a arguments) ([]any, api.Errno) { return expect.One(aim.Differences(a.l, a.p, a.q)) }},
		{What: "Print", Takes: plan[1:], Do: func(a arguments) ([]any, api.Errno) { return expect.One(aim.Print(a.l, a.p)) }},
		{What: "Parse", Takes: plan[1:2], Do: func(a arguments) ([]any, api.Errno) { return expect.Two(aim.Parse(a.l, "aim s 0 0\naim t none\n")) }},
	}
}

// isNothing reports whether all results are their zero values, where an empty list is one.
func isNothing(results []any) bool {
	for _, x := range results {
		v := reflect.ValueOf(x)
		if !v.IsZero() && (v.Kind() != reflect.Slice || v.Len() > 0) {
			return false
		}
	}
	return true
}

// between returns a number from low to high.
func between(r *rand.Rand, low, high int) int { return low + r.Intn(high-low+1) }

// randomReceiver returns a receiver of at most a side, with limits up to most.
func randomReceiver(r *rand.Rand, side, most int) aim.Receiver {
	x := receiver(between(r, 1, side), between(r, 1, side))
	for range x.Width * x.Height {
		x.Limits = append(x.Limits, between(r, 0, most))
	}
	return x
}

// randomSpot returns a spot near to a receiver, with a map of at most a side and integers up to most.
func randomSpot(r *rand.Rand, name string, near aim.Receiver, side, most int) aim.Spot {
	x := aim.Spot{Name: name, Wrong: max(0, between(r, -2, 3))}
	width, height := between(r, 1, side), between(r, 1, side)
	var l []int
	for range width * height {
		l = append(l, max(0, between(r, -most/3, most)))
	}
	x.Map = table(width, height, l...)
	for n := between(r, 1, 6); len(x.Aims) < n; {
		place := at(between(r, -width, near.Width), between(r, -height, near.Height))
		if !slices.Contains(x.Aims, place) {
			x.Aims = append(x.Aims, place)
		}
	}
	return x
}

func randomSpots(r *rand.Rand, n int, near aim.Receiver, side, most int) []aim.Spot {
	var l []aim.Spot
	for i := range n {
		l = append(l, randomSpot(r, "m"+strconv.Itoa(i), near, side, most))
	}
	return l
}

func randomPlan(r *rand.Rand, l []aim.Spot) []int {
	var p []int
	for _, x := range l {
		p = append(p, between(r, aim.None, len(x.Aims)-1))
	}
	return p
}
