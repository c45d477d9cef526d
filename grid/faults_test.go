package grid_test

import (
	"math"
	"slices"
	"strings"

	"spillage/api"
	"spillage/expect"
	"spillage/grid"
)

// What can be wrong with each argument.

type fault = expect.Fault[arguments]

// faults returns the faults of each argument.
func faults() map[string][]fault {
	return map[string][]fault{
		"four":       fourFaults(),
		"grid":       phasorFaults(func(a *arguments, x api.Gauss) { a.grid = x }),
		"generator":  phasorFaults(func(a *arguments, x api.Gauss) { a.generator = x }),
		"grids":      phasorsFaults(func(a *arguments, l []api.Gauss) { a.grids = l }),
		"generators": phasorsFaults(func(a *arguments, l []api.Gauss) { a.generators = l }),
		"window":     windowFaults(),
		"hold":       expect.Ranged(1, 64, func(a *arguments, n int) { a.hold = n }),
		"vibration":  vibrationFaults(),
		"names":      nameFaults(),
		"responses":  responseFaults(),
		"plant":      plantFaults(),
		"quarters":   quarterFaults(),
		"dispatch":   dispatchFaults(),
		"values":     amountFaults(100000, func(a *arguments, l []int) { a.values = l }),
		"offered":    amountFaults(30, func(a *arguments, l []int) { a.offered = l }),
		"delivered":  amountFaults(30, func(a *arguments, l []int) { a.delivered = l }),
		"fine":       expect.Ranged(0, 100000, func(a *arguments, n int) { a.fine = n }),
		"stops":      stopFaults(),
		"round":      roundFaults(),
		"soil": slices.Concat(
			expect.Faults(api.ErrMany, func(a *arguments, l []int) { a.soil = l }, make([]int, 257), slices.Repeat(ints(-1), 257), make([]int, 100000)),
			expect.Ranged(0, 10000, func(a *arguments, n int) { a.soil[0] = n }), expect.Ranged(0, 10000, func(a *arguments, n int) { a.soil = append(make([]int, 255), n) }),
		),
		"rate":   expect.Ranged(0, 10000, func(a *arguments, n int) { a.rate = n }),
		"washed": washedFaults(),
	}
}

// fourFaults has samples behind which others are wrong, too.
func fourFaults() []fault {
	put := func(a *arguments, l [4]float32) { a.four = l }
	var l []fault
	for i := range 4 {
		at := func(a *arguments, x float32) { a.four[i] = x }
		l = slices.Concat(l, expect.Faults(api.ErrForm, at, nan(), inf(1), inf(-1)), expect.Faults(api.ErrRange, at, wrongSamples()...))
	}
	return slices.Concat(l,
		expect.Faults(api.ErrForm, put, [4]float32{nan(), 2000}, [4]float32{1, 1, inf(1), 2000}),
		expect.Faults(api.ErrRange, put, [4]float32{2000, nan()}, [4]float32{1, 1, 0.03125, inf(1)}),
	)
}

// wrongSamples are finite numbers that are no samples.
func wrongSamples() []float32 {
	return []float32{1024.0625, -1024.0625, 0.03125, -0.03125, 2000, 1e30, math.MaxFloat32, -math.MaxFloat32, math.SmallestNonzeroFloat32}
}

func phasorFaults(put func(a *arguments, x api.Gauss)) []fault {
	return slices.Concat(
		expect.Ranged(-1<<20, 1<<20, func(a *arguments, n int) { put(a, z(n, 0)) }), expect.Ranged(-1<<20, 1<<20, func(a *arguments, n int) { put(a, z(1<<20, n)) }), expect.Ranged(-1<<20, 1<<20, func(a *arguments, n int) { put(a, z(n, n)) }),
	)
}

func phasorsFaults(put func(a *arguments, l []api.Gauss)) []fault {
	return slices.Concat(
		expect.Faults(api.ErrMany, put, make([]api.Gauss, 257), slices.Repeat(phasors(1<<20+1, 0), 257), make([]api.Gauss, 100000)),
		phasorFaults(func(a *arguments, x api.Gauss) { put(a, []api.Gauss{x}) }), phasorFaults(func(a *arguments, x api.Gauss) { put(a, append(phasors(1, 0, 0, 0), x)) }), phasorFaults(func(a *arguments, x api.Gauss) { put(a, append(still(255), x)) }),
	)
}

// windowFaults has windows whose later numbers are wrong, too.
func windowFaults() []fault {
	put := func(a *arguments, w grid.Window) { a.window = w }
	var l []fault
	for _, x := range []struct {
		low int
		of  func(w *grid.Window) *int
	}{
		{0, func(w *grid.Window) *int { return &w.Num }}, {1, func(w *grid.Window) *int { return &w.Den }}, {0, func(w *grid.Window) *int { return &w.Least }}, {0, func(w *grid.Window) *int { return &w.Most }},
	} {
		l = slices.Concat(l,
			expect.Ranged(x.low, 1000, func(a *arguments, n int) { *x.of(&a.window) = n }),
			expect.Ranged(x.low, 1000, func(a *arguments, n int) {
				a.window = window(0, 1, 2, 1)
				*x.of(&a.window) = n
			}),
		)
	}
	return append(l, expect.Faults(api.ErrOrder, put, window(1, 2, 120, 80), window(0, 1, 1, 0), window(0, 1000, 1000, 999), window(1000, 1, 1000, 0))...)
}

func vibrationFaults() []fault {
	put := func(a *arguments, l []float32) { a.vibration = l }
	last := func(a *arguments, x float32) { a.vibration = append(make([]float32, 4095), x) }
	odd := func(a *arguments, x float32) { a.vibration = []float32{0, x, nan()} }
	return slices.Concat(
		expect.Faults(api.ErrMany, put, make([]float32, 4097), make([]float32, 4100), slices.Repeat([]float32{nan()}, 4098), make([]float32, 100000)),
		expect.Faults(api.ErrForm, last, nan(), inf(1), inf(-1)), expect.Faults(api.ErrRange, last, wrongSamples()...), expect.Faults(api.ErrForm, odd, nan(), inf(1), 0), expect.Faults(api.ErrRange, odd, wrongSamples()...),
		expect.Faults(api.ErrShape, put, samples(0), samples(1, 2), samples(1, 2, 3), samples(1, 2, 3, 4, 5), make([]float32, 4095)),
	)
}

func nameFaults() []fault {
	wrong := []string{"", " ", "1", "_a", "a b", "a-b", "a\n", "\u00e4", "a\x00", "\xff", strings.Repeat("a", 25), strings.Repeat("a", 100000)}
	var l []fault
	for i := range 3 {
		l = append(l, expect.Faults(api.ErrName, func(a *arguments, s string) { a.names[i] = s }, wrong...)...)
	}
	return l
}

func responseFaults() []fault {
	put := func(a *arguments, l []complex128) { a.responses = l }
	far := math.Inf(1)
	finite := []float64{256.0625, -256.0625, 0.03125, -0.03125, 1000, 1e300, math.MaxFloat64, -math.MaxFloat64, math.SmallestNonzeroFloat64}
	l := slices.Concat(
		expect.Faults(api.ErrEmpty, put, nil, []complex128{}),
		expect.Faults(api.ErrMany, put, make([]complex128, 65), slices.Repeat([]complex128{300}, 65), make([]complex128, 100000)),
		expect.Faults(api.ErrForm, put, []complex128{1, complex(far, 0), 300}, []complex128{complex(300, math.NaN())}, []complex128{complex(math.NaN(), 300)}),
		expect.Faults(api.ErrRange, put, []complex128{1, 300, complex(far, 0)}, []complex128{300i, complex(0, math.NaN())}),
	)
	for _, x := range []func(x float64) []complex128{
		func(x float64) []complex128 { return []complex128{complex(x, 0)} }, func(x float64) []complex128 { return []complex128{complex(256, x)} }, func(x float64) []complex128 { return append(around(), complex(x, x)) }, func(x float64) []complex128 { return append(make([]complex128, 63), complex(0, x)) },
	} {
		at := func(a *arguments, y float64) { a.responses = x(y) }
		l = slices.Concat(l, expect.Faults(api.ErrForm, at, math.NaN(), far, -far), expect.Faults(api.ErrRange, at, finite...))
	}
	return l
}

func plantFaults() []fault {
	return slices.Concat(
		expect.Ranged(0, 60, func(a *arguments, n int) { a.plant = plant(n, 0, 0) }), expect.Ranged(0, 60, func(a *arguments, n int) { a.plant = plant(n, -1, 31) }), expect.Ranged(0, 60, func(a *arguments, n int) { a.plant = plant(n, n, n) }),
		expect.Ranged(0, 6, func(a *arguments, n int) { a.plant.Level = n }), expect.Ranged(0, 0, func(a *arguments, n int) { a.plant = plant(0, n, 31) }), expect.Ranged(0, 60, func(a *arguments, n int) { a.plant = plant(60, n, 30) }),
		expect.Ranged(0, 30, func(a *arguments, n int) { a.plant.Most = n }), expect.Ranged(0, 30, func(a *arguments, n int) { a.plant = plant(0, 0, n) }),
	)
}

func quarterFaults() []fault {
	put := func(a *arguments, l []grid.Quarter) { a.quarters = l }
	return slices.Concat(
		expect.Faults(api.ErrMany, put, make([]grid.Quarter, 9), slices.Repeat(hours(100001, -1), 9), make([]grid.Quarter, 100000)),
		expect.Ranged(-100000, 100000, func(a *arguments, n int) { a.quarters[0].Price = n }), expect.Ranged(-100000, 100000, func(a *arguments, n int) { a.quarters = append(make([]grid.Quarter, 7), hours(n, 31)...) }), expect.Ranged(0, 30, func(a *arguments, n int) { a.quarters[2].Heat = n }), expect.Ranged(0, 30, func(a *arguments, n int) { a.quarters = append(make([]grid.Quarter, 7), hours(100000, n)...) }),
	)
}

func dispatchFaults() []fault {
	put := func(a *arguments, d []int) { a.dispatch = d }
	return slices.Concat(
		expect.Faults(api.ErrShape, put, nil, ints(), ints(2), ints(2, 4), ints(2, 4, 4, 0), ints(5, -1), ints(9, 9, 9, 9), make([]int, 100000)),
		expect.Ranged(0, 4, func(a *arguments, n int) { a.dispatch[0] = n }), expect.Ranged(0, 4, func(a *arguments, n int) { a.dispatch[2] = n }), expect.Ranged(0, 4, func(a *arguments, n int) { a.dispatch = ints(4, n, 4) }),
		expect.Faults(api.ErrShort, put, ints(4, 4, 4), ints(4, 4, 3), ints(3, 4, 4)),
	)
}

// amountFaults are those of numbers for the three quarter hours.
func amountFaults(most int, put func(a *arguments, l []int)) []fault {
	return slices.Concat(
		expect.Faults(api.ErrShape, put, nil, ints(0, 0), ints(0, 0, 0, 0), ints(-1), ints(-1, -1, -1, -1), make([]int, 100000)),
		expect.Ranged(0, most, func(a *arguments, n int) { put(a, ints(n, 0, 0)) }), expect.Ranged(0, most, func(a *arguments, n int) { put(a, ints(0, n, most)) }), expect.Ranged(0, most, func(a *arguments, n int) { put(a, ints(most, most, n)) }),
	)
}

// stopFaults has distances with several errors, of which that of the shape comes first, then that of the range.
func stopFaults() []fault {
	put := func(a *arguments, d [][]int) { a.stops = d }
	return slices.Concat(
		expect.Faults(api.ErrEmpty, put, nil, [][]int{}),
		expect.Faults(api.ErrMany, put, apart(8, 1), apart(8, -1), make([][]int, 8), make([][]int, 100000)),
		expect.Faults(api.ErrShape, put, [][]int{nil}, [][]int{{0, 0}}, [][]int{{0, 1}, {1}}, [][]int{{0, 1}, {1, 0, 0}}, [][]int{{0}, {0}}, [][]int{{-1, 5}, {2}}, [][]int{{0, 3, 4}, {3, 0, 6}, {4, 6}}, make([][]int, 7), [][]int{make([]int, 100000)}),
		expect.Ranged(0, 10000, func(a *arguments, n int) { a.stops = altered(0, 1, n) }), expect.Ranged(0, 10000, func(a *arguments, n int) { a.stops = altered(2, 2, n) }), expect.Ranged(0, 10000, func(a *arguments, n int) { a.stops = distances(2, n) }), expect.Ranged(0, 10000, func(a *arguments, n int) { a.stops = [][]int{{n}} }), expect.Ranged(0, 10000, func(a *arguments, n int) { a.stops = [][]int{{5, 1}, {2, n}} }),
		expect.Faults(api.ErrForm, put, [][]int{{1}}, [][]int{{10000}}, [][]int{{0, 1}, {2, 0}}, [][]int{{0, 0}, {1, 0}}, [][]int{{0, 1}, {0, 0}}, altered(0, 0, 1), altered(1, 1, 10000), altered(2, 2, 1), altered(0, 2, 5), altered(1, 2, 0), altered(2, 1, 10000), altered(1, 0, 4)),
	)
}

func roundFaults() []fault {
	put := func(a *arguments, l []int) { a.round = l }
	return slices.Concat(
		expect.Faults(api.ErrShape, put, nil, ints(0), ints(0, 1), ints(0, 1, 2, 0), ints(3, 3, 3, 3), ints(-1), make([]int, 100000)),
		expect.Faults(api.ErrUnknown, func(a *arguments, n int) { a.round = ints(n, 1, 2) }, expect.Outside(0, 2)...), expect.Faults(api.ErrUnknown, func(a *arguments, n int) { a.round = ints(1, 1, n) }, expect.Outside(0, 2)...),
		expect.Faults(api.ErrTwice, put, ints(0, 1, 1), ints(0, 0, 1), ints(0, 1, 0), ints(1, 1, 0), ints(2, 2, 2), ints(1, 2, 1), ints(0, 0, 0)),
		expect.Faults(api.ErrRule, put, ints(1, 0, 2), ints(1, 2, 0), ints(2, 0, 1), ints(2, 1, 0)),
	)
}

func washedFaults() []fault {
	put := func(a *arguments, l [][]int) { a.washed = l }
	return slices.Concat(
		expect.Faults(api.ErrMany, put, make([][]int, 366), slices.Repeat([][]int{{-1}}, 366), make([][]int, 100000), [][]int{make([]int, 257)}, [][]int{{0}, slices.Repeat(ints(2), 257)}, [][]int{{1}, make([]int, 257), {2}}),
		expect.Faults(api.ErrUnknown, func(a *arguments, n int) { a.washed = [][]int{{n}} }, expect.Outside(0, 1)...), expect.Faults(api.ErrUnknown, func(a *arguments, n int) { a.washed = [][]int{{0, 1}, {}, {1, 1, n}} }, expect.Outside(0, 1)...),
		expect.Faults(api.ErrUnknown, put, [][]int{{2}, make([]int, 257)}, [][]int{append(make([]int, 255), 2)}, append(make([][]int, 364), ints(2))),
	)
}
