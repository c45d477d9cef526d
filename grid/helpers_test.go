package grid_test

import (
	"math"
	"math/rand"
	"reflect"
	"slices"

	"spillage/api"
	"spillage/expect"
	"spillage/grid"
)

func ints(l ...int) []int { return l }

func z(re, im int) api.Gauss { return api.Gauss{Re: re, Im: im} }

// phasors returns the phasors with pairs of parts.
func phasors(l ...int) []api.Gauss {
	var out []api.Gauss
	for pair := range slices.Chunk(l, 2) {
		out = append(out, z(pair[0], pair[1]))
	}
	return out
}

// still returns n times the phasor 10.
func still(n int) []api.Gauss { return slices.Repeat(phasors(10, 0), n) }

// times returns the product of two phasors.
func times(a, b api.Gauss) api.Gauss { return z(a.Re*b.Re-a.Im*b.Im, a.Re*b.Im+a.Im*b.Re) }

func window(num, den, least, most int) grid.Window {
	return grid.Window{Num: num, Den: den, Least: least, Most: most}
}

// shown returns the window of the chapter's examples.
func shown() grid.Window { return window(1, 2, 80, 120) }

func nan() float32 { return float32(math.NaN()) }

func inf(sign int) float32 { return float32(math.Inf(sign)) }

func minusZero() float32 { return float32(math.Copysign(0, -1)) }

// samples returns the samples with some integers.
func samples(l ...int) []float32 {
	var out []float32
	for _, n := range l {
		out = append(out, float32(n)/16)
	}
	return out
}

func sways() [3]string { return [3]string{"sway", "twist", "shake"} }

// around returns the responses of the chapter's examples.
func around() []complex128 { return []complex128{1, 1i, -2, -1i} }

func plant(storage, level, most int) grid.Plant {
	return grid.Plant{Storage: storage, Level: level, Most: most}
}

// hours returns the quarter hours with pairs of a price and its heat.
func hours(l ...int) []grid.Quarter {
	var out []grid.Quarter
	for pair := range slices.Chunk(l, 2) {
		out = append(out, grid.Quarter{Price: pair[0], Heat: pair[1]})
	}
	return out
}

// p and day return the plant P and its quarter hours, of the chapter's examples.
func p() grid.Plant { return plant(6, 2, 4) }

func day() []grid.Quarter { return hours(10, 5, 30, 3, 20, 0) }

func told(income, left, spilled int) grid.Told {
	return grid.Told{Income: income, Left: left, Spilled: spilled}
}

// short returns the shortfalls with pairs of a quarter hour and by how much it is short.
func short(l ...int) []grid.Shortfall {
	var out []grid.Shortfall
	for pair := range slices.Chunk(l, 2) {
		out = append(out, grid.Shortfall{Quarter: pair[0], By: pair[1]})
	}
	return out
}

// stops returns the distances of the chapter's examples.
func stops() [][]int { return distances(3, 3, 4, 6) }

// distances returns the distances between n stops: from the stop 0 to all later ones, then from the stop 1, and so on.
func distances(n int, l ...int) [][]int {
	d := apart(n, 0)
	for from := range n {
		for to := from + 1; to < n; to++ {
			d[from][to], d[to][from] = l[0], l[0]
			l = l[1:]
		}
	}
	return d
}

// apart returns n stops that are all as far from one another.
func apart(n, far int) [][]int {
	var d [][]int
	for from := range n {
		row := slices.Repeat(ints(far), n)
		row[from] = 0
		d = append(d, row)
	}
	return d
}

// altered returns a copy of the distances of the chapter's examples with another one.
func altered(from, to, far int) [][]int {
	d := stops()
	d[from][to] = far
	return d
}

// between returns a number from low to high.
func between(r *rand.Rand, low, high int) int { return low + r.Intn(high-low+1) }

// pick returns one of some values.
func pick[T any](r *rand.Rand, l ...T) T { return l[r.Intn(len(l))] }

// list returns n numbers from low to high.
func list(r *rand.Rand, n, low, high int) []int {
	var l []int
	for range n {
		l = append(l, between(r, low, high))
	}
	return l
}

// randomPhasor returns a phasor with parts up to a reach that is not 0.
func randomPhasor(r *rand.Rand, reach int) api.Gauss {
	for {
		if x := z(between(r, -reach, reach), between(r, -reach, reach)); x != z(0, 0) {
			return x
		}
	}
}

// randomWindow returns a window that many generators near to their grid are within.
func randomWindow(r *rand.Rand) grid.Window {
	most := between(r, 0, pick(r, 100, 200, 1000))
	return window(between(r, 0, pick(r, 3, 1000)), between(r, 1, pick(r, 3, 1000)), between(r, 0, most), most)
}

// randomPlant returns a plant with a storage up to most.
func randomPlant(r *rand.Rand, most, flow int) grid.Plant {
	storage := r.Intn(most + 1)
	return plant(storage, r.Intn(storage+1), r.Intn(flow+1))
}

// randomDay returns n quarter hours, of which many have the same price.
func randomDay(r *rand.Rand, n, price, heat int) []grid.Quarter {
	var l []grid.Quarter
	for range n {
		l = append(l, grid.Quarter{Price: between(r, -price/3, price), Heat: r.Intn(heat + 1)})
	}
	return l
}

// randomDispatch returns a dispatch that a plant can deliver.
func randomDispatch(r *rand.Rand, p grid.Plant, l []grid.Quarter) []int {
	var d []int
	level := p.Level
	for _, q := range l {
		units := r.Intn(min(p.Most, level+q.Heat) + 1)
		d = append(d, units)
		level = min(level+q.Heat-units, p.Storage)
	}
	return d
}

func randomStops(r *rand.Rand, n, far int) [][]int {
	return distances(n, list(r, n*(n-1)/2, 0, far)...)
}

// randomRound returns a round of n stops.
func randomRound(r *rand.Rand, n int) []int {
	round := ints(0)
	for _, i := range r.Perm(n - 1) {
		round = append(round, i+1)
	}
	return round
}

// arguments are what the functions of the package take.
type arguments struct {
	four               [4]float32
	grid, generator    api.Gauss
	grids, generators  []api.Gauss
	window             grid.Window
	hold               int
	vibration          []float32
	names              [3]string
	responses          []complex128
	plant              grid.Plant
	quarters           []grid.Quarter
	dispatch, values   []int
	offered, delivered []int
	fine               int
	stops              [][]int
	round              []int
	soil               []int
	rate               int
	washed             [][]int
}

func rightArguments() arguments {
	return arguments{
		four: [4]float32{1, 2, 3, 5}, grid: z(10, 0), generator: z(9, 4), grids: still(4), generators: phasors(0, 9, 10, 0, 10, 0, 9, 0), window: shown(), hold: 2, vibration: []float32{1, -1, 1, -1, 0, 2, 0, 0}, names: sways(), responses: around(),
		plant: p(), quarters: day(), dispatch: ints(2, 4, 4), values: ints(10, 20, 20), offered: ints(2, 4, 4), delivered: ints(2, 3, 4), fine: 15, stops: stops(), round: ints(0, 2, 1), soil: ints(5, 0), rate: 2, washed: [][]int{{}, {0}},
	}
}

func calls() []expect.Call[arguments] {
	list := func(l ...string) []string { return l }
	return []expect.Call[arguments]{
		{What: "Phasor", Takes: list("four"), Do: func(a arguments) ([]any, api.Errno) { return expect.One(grid.Phasor(a.four)) }},
		{What: "CheckWindow", Takes: list("window"), Do: func(a arguments) ([]any, api.Errno) { return expect.None(grid.CheckWindow(a.window)) }},
		{What: "InStep", Takes: list("grid", "generator", "window"), Do: func(a arguments) ([]any, api.Errno) {
			return expect.One(grid.InStep(a.grid, a.generator, a.window))
		}},
		{What: "Joined", Takes: list("grids", "generators", "window", "hold"), Do: func(a arguments) ([]any, api.Errno) {
			return expect.One(grid.Joined(a.grids, a.generators, a.window, a.hold))
		}},
		{What: "Slip", Takes: list("grids", "generators"), Do: func(a arguments) ([]any, api.Errno) { return expect.One(grid.Slip(a.grids, a.generators)) }},
		{What: "Energies", Takes: list("vibration"), Do: func(a arguments) ([]any, api.Errno) { return expect.One(grid.Energies(a.vibration)) }},
		{What: "Mode", Takes: list("vibration", "names"), Do: func(a arguments) ([]any, api.Errno) { return expect.One(grid.Mode(a.vibration, a.names)) }},
		{What: "Margin", Takes: list("responses"), Do: func(a arguments) ([]any, api.Errno) { return expect.Two(grid.Margin(a.responses)) }},
		{What: "Winding", Takes: list("responses"), Do: func(a arguments) ([]any, api.Errno) { return expect.One(grid.Winding(a.responses)) }},
		{What: "CheckOffers", Takes: list("plant", "quarters"), Do: func(a arguments) ([]any, api.Errno) { return expect.None(grid.CheckOffers(a.plant, a.quarters)) }},
		{What: "CheckDispatch", Takes: list("plant", "quarters", "dispatch"), Do: func(a arguments) ([]any, api.Errno) {
			return expect.One(grid.CheckDispatch(a.plant, a.quarters, a.dispatch))
		}},
		{What: "Dispatch", Takes: list("plant", "quarters"), Do: func(a arguments) ([]any, api.Errno) { return expect.Two(grid.Dispatch(a.plant, a.quarters)) }},
		{What: "Bound", Takes: list("plant", "quarters", "values"), Do: func(a arguments) ([]any, api.Errno) {
			return expect.One(grid.Bound(a.plant, a.quarters, a.values))
		}},
		{What: "Levels", Takes: list("plant", "quarters", "dispatch"), Do: func(a arguments) ([]any, api.Errno) {
			return expect.One(grid.Levels(a.plant, a.quarters, a.dispatch))
		}},
		{What: "Settled", Takes: list("quarters", "offered", "delivered", "fine"), Do: func(a arguments) ([]any, api.Errno) {
			return expect.Two(grid.Settled(a.quarters, a.offered, a.delivered, a.fine))
		}},
		{What: "CheckStops", Takes: list("stops"), Do: func(a arguments) ([]any, api.Errno) { return expect.None(grid.CheckStops(a.stops)) }},
		{What: "Length", Takes: list("stops", "round"), Do: func(a arguments) ([]any, api.Errno) { return expect.One(grid.Length(a.stops, a.round)) }},
		{What: "Route", Takes: list("stops"), Do: func(a arguments) ([]any, api.Errno) { return expect.Two(grid.Route(a.stops)) }},
		{What: "Short", Takes: list("stops"), Do: func(a arguments) ([]any, api.Errno) { return expect.One(grid.Short(a.stops)) }},
		{What: "Soiled", Takes: list("soil", "rate", "washed"), Do: func(a arguments) ([]any, api.Errno) { return expect.Two(grid.Soiled(a.soil, a.rate, a.washed)) }},
		{What: "Print", Takes: list("plant", "quarters"), Do: func(a arguments) ([]any, api.Errno) { return expect.One(grid.Print(a.plant, a.quarters)) }},
	}
}

// isNothing reports whether all results are their zero values, where an empty list is one.
func isNothing(results []any) bool {
	return !slices.ContainsFunc(results, func(x any) bool {
		v := reflect.ValueOf(x)
		return !v.IsZero() && (v.Kind() != reflect.Slice || v.Len() > 0)
	})
}
