package cloud_test

import (
	"math"
	"math/rand"
	"reflect"
	"slices"

	"spillage/api"
	"spillage/cloud"
	"spillage/expect"
	"spillage/light"
)

func at(x, y int) api.Point { return api.Point{X: x, Y: y} }

// points returns the points with pairs of coordinates.
func points(l ...int) []api.Point {
	var p []api.Point
	for pair := range slices.Chunk(l, 2) {
		p = append(p, at(pair[0], pair[1]))
	}
	return p
}

func to(low, high int) api.Interval { return api.Interval{Low: low, High: high} }

func span(from, to int) api.Span { return api.Span{From: from, To: to} }

func ratio(num, den int) api.Ratio { return api.Ratio{Num: num, Den: den} }

func line(a, b, c, d int) [2]api.Point { return [2]api.Point{at(a, b), at(c, d)} }

func sun(x, y, z int) api.Vector { return api.Vector{X: x, Y: y, Z: z} }

// drift returns a drift in 10 ticks.
func drift(a, b, c, d int) cloud.Drift { return during(10, to(a, b), to(c, d)) }

func during(ticks int, x, y api.Interval) cloud.Drift {
	return cloud.Drift{Ticks: ticks, X: x, Y: y}
}

// drawn returns the image whose rows have a digit for each cell, which is its sample.
func drawn(rows ...string) light.Map {
	m := light.Map{Width: len(rows[0]), Height: len(rows)}
	for _, row := range rows {
		for _, digit := range row {
			m.Samples = append(m.Samples, float32(digit-'0'))
		}
	}
	return m
}

// table returns a map of samples with some integers.
func table(width, height int, l ...int) light.Map {
	m := light.Map{Width: width, Height: height}
	for _, n := range l {
		m.Samples = append(m.Samples, float32(n)/16)
	}
	return m
}

// flat returns a map whose samples are all the same.
func flat(width, height int, x float32) light.Map {
	return light.Map{Width: width, Height: height, Samples: slices.Repeat([]float32{x}, width*height)}
}

// a and b return the images A and B of the chapter's examples.
func a() light.Map { return drawn("2200", "0000", "0000") }

func b() light.Map { return drawn("0000", "0220", "0000") }

func nan() float32 { return float32(math.NaN()) }

func inf(sign int) float32 { return float32(math.Inf(sign)) }

func minusZero() float32 { return float32(math.Copysign(0, -1)) }

// between returns a number from low to high.
func between(r *rand.Rand, low, high int) int { return low + r.Intn(high-low+1) }

// pick returns one of some numbers.
func pick(r *rand.Rand, l ...int) int { return l[r.Intn(len(l))] }

// randomImage returns an image of a width and a height with integers up to most, of which some or many are 0.
func randomImage(r *rand.Rand, width, height, most int) light.Map {
	l := make([]int, width*height)
	full := between(r, 1, 5)
	for i := range l {
		if r.Intn(5) < full {
			l[i] = r.Intn(most + 1)
		}
	}
	return table(width, height, l...)
}

func randomPoint(r *rand.Rand, reach int) api.Point {
	return at(between(r, -reach, reach), between(r, -reach, reach))
}

func randomPoints(r *rand.Rand, n, reach int) []api.Point {
	var l []api.Point
	for range n {
		l = append(l, randomPoint(r, reach))
	}
	return l
}

func randomLine(r *rand.Rand, reach int) [2]api.Point {
	return [2]api.Point{randomPoint(r, reach), randomPoint(r, reach)}
}

// randomDrift returns a drift with at most width integers along an axis, up to a reach.
func randomDrift(r *rand.Rand, reach, width int) cloud.Drift {
	interval := func() api.Interval {
		low := between(r, -reach, reach)
		return to(low, min(low+r.Intn(width), reach))
	}
	return during(pick(r, 1, 2, 3, 7, 10, 20), interval(), interval())
}

// arguments are what the functions of the package take.
type arguments struct {
	image, other      light.Map
	limit             float32
	cloud             cloud.Cloud
	shift             api.Point
	most, least       int
	ticks, blur       int
	drift, second     cloud.Drift
	motion            api.Point
	t                 int
	cells             []api.Point
	cell              api.Point
	horizon           int
	height            api.Interval
	sun               api.Vector
	segment, crossing [2]api.Point
	track             []api.Point
	beams             [][2]api.Point
}

func rightArguments() arguments {
	return arguments{
		image: a(), other: b(), limit: 1, cloud: points(0, 0, 1, 0), shift: at(1, 1), most: 1, least: 4, ticks: 10, blur: 1, drift: drift(0, 1, 1, 1), second: drift(1, 3, -1, 1), motion: at(1, 1), t: 10, cells: points(0, 1, 1, 1, 3, 1), cell: at(2, 1), horizon: 30,
		height: to(10, 20), sun: sun(3, -1, 4), segment: line(0, 0, 4, 4), crossing: line(0, 4, 4, 0), track: points(0, 0, 5, 0, 5, 5), beams: [][2]api.Point{line(3, -1, 3, 1), line(0, 2, 4, 2), line(4, 4, 6, 4)},
	}
}

type fault = expect.Fault[arguments]

// mapFaults are those of a map and of an image.
func mapFaults(put func(a *arguments, m light.Map)) []fault {
	last := func(x float32) light.Map { m := a(); m.Samples[11] = x; return m }
	first := func(x, y float32) light.Map { m := a(); m.Samples[0], m.Samples[1] = x, y; return m }
	long := slices.Concat(expect.Faults(api.ErrRange, put, light.Map{}, table(0, 1), table(1, 0), table(0, 0, -1), table(-4, -3, -1), flat(65, 1, -1), flat(1, 65, 1), table(1<<32, 1<<32), table(math.MinInt, math.MaxInt)), expect.Faults(api.ErrShape, put, table(1, 1), table(4, 3, -1), light.Map{Width: 4, Height: 3, Samples: a().Samples[:11]}, light.Map{Width: 4, Height: 3, Samples: append(a().Samples, nan())}))
	return slices.Concat(long,
		expect.Faults(api.ErrForm, put, last(nan()), last(inf(1)), last(inf(-1)), first(nan(), -1), first(-1, nan()), first(-1, inf(-1))),
		expect.Faults(api.ErrRange, put, last(0.03125), last(1024.0625), last(-1024.0625), first(2000, nan()), first(-0.03125, nan())),
		expect.Faults(api.ErrRange, put, last(-1), first(-0.0625, 1), last(-1024), flat(4, 3, -2)),
	)
}

// pointFaults are those of a point with parts from -most to most.
func pointFaults(most int, put func(a *arguments, p api.Point)) []fault {
	return slices.Concat(
		expect.Ranged(-most, most, func(a *arguments, n int) { put(a, at(n, 0)) }),
		expect.Ranged(-most, most, func(a *arguments, n int) { put(a, at(most, n)) }),
		expect.Ranged(-most, most, func(a *arguments, n int) { put(a, at(n, n)) }),
	)
}

func driftFaults(put func(a *arguments, d cloud.Drift)) []fault {
	bad := to(5000, -5000)
	l := slices.Concat(
		expect.Ranged(1, 1000, func(a *arguments, n int) { put(a, during(n, to(0, 0), to(0, 0))) }),
		expect.Ranged(1, 1000, func(a *arguments, n int) { put(a, during(n, to(2, 1), bad)) }),
		expect.Faults(api.ErrRange, put, cloud.Drift{}),
	)
	for _, axis := range []func(x api.Interval) cloud.Drift{
		func(x api.Interval) cloud.Drift { return during(10, x, bad) },
		func(x api.Interval) cloud.Drift { return during(1, x, to(0, 0)) },
		func(x api.Interval) cloud.Drift { return during(1000, to(-4, 4), x) },
	} {
		end := func(x func(n int) api.Interval) []fault {
			return expect.Ranged(-1000, 1000, func(a *arguments, n int) { put(a, axis(x(n))) })
		}
		l = slices.Concat(l,
			end(func(n int) api.Interval { return to(n, 0) }), end(func(n int) api.Interval { return to(0, n) }), end(func(n int) api.Interval { return to(n, n) }), end(func(n int) api.Interval { return to(1000, n) }),
			expect.Faults(api.ErrOrder, put, axis(to(1, 0)), axis(to(1000, -1000)), axis(to(-999, -1000))),
			expect.Faults(api.ErrMany, put, axis(to(0, 9)), axis(to(-1000, -991)), axis(to(-1000, 1000)), axis(to(-5, 4))),
		)
	}
	return l
}

// pathFaults are those of a list of points with a limit.
func pathFaults(most int, put func(a *arguments, l []api.Point)) []fault {
	far := slices.Repeat(points(0, 100001), most+1)
	return slices.Concat(
		expect.Faults(api.ErrMany, put, make([]api.Point, most+1), far, make([]api.Point, 100000)),
		expect.Faults(api.ErrRange, put, far[1:]),
		pointFaults(100000, func(a *arguments, p api.Point) { put(a, append(points(0, 0, 1, 1), p)) }),
		pointFaults(100000, func(a *arguments, p api.Point) { put(a, []api.Point{p, at(0, 0), at(0, 0)}) }),
	)
}

func segmentFaults(put func(a *arguments, s [2]api.Point)) []fault {
	return slices.Concat(
		pointFaults(100000, func(a *arguments, p api.Point) { put(a, [2]api.Point{p, at(0, 0)}) }),
		pointFaults(100000, func(a *arguments, p api.Point) { put(a, [2]api.Point{at(0, 0), p}) }),
	)
}

// faults returns the faults of each argument.
func faults() map[string][]fault {
	image := func(a *arguments, m light.Map) { a.image = m }
	other := func(a *arguments, m light.Map) { a.other = m }
	limit := func(a *arguments, x float32) { a.limit = x }
	path := func(a *arguments, l []api.Point) { a.track = l }
	group := func(a *arguments, l []api.Point) { a.cloud = l }
	beams := func(a *arguments, l [][2]api.Point) { a.beams = l }
	return map[string][]fault{
		"image":   mapFaults(image),
		"other":   append(mapFaults(other), expect.Faults(api.ErrShape, other, flat(4, 2, 1), flat(4, 4, 1), flat(3, 3, 1), flat(5, 3, 1), flat(3, 4, 1), flat(12, 1, 1))...),
		"limit":   slices.Concat(expect.Faults(api.ErrForm, limit, nan(), inf(1), inf(-1)), expect.Faults(api.ErrRange, limit, 0, minusZero(), -1, -0.0625, -1024, 0.03125, 1024.0625, -1024.0625, 1e30, math.MaxFloat32, math.SmallestNonzeroFloat32)),
		"cloud":   append(pathFaults(4096, group), expect.Faults(api.ErrEmpty, group, nil, points())...),
		"shift":   pointFaults(100000, func(a *arguments, p api.Point) { a.shift = p }),
		"most":    expect.Ranged(0, 8, func(a *arguments, n int) { a.most = n }),
		"least":   expect.Ranged(1, 4096, func(a *arguments, n int) { a.least = n }),
		"ticks":   expect.Ranged(1, 1000, func(a *arguments, n int) { a.ticks = n }),
		"blur":    expect.Ranged(0, 4, func(a *arguments, n int) { a.blur = n }),
		"drift":   driftFaults(func(a *arguments, d cloud.Drift) { a.drift = d }),
		"second":  driftFaults(func(a *arguments, d cloud.Drift) { a.second = d }),
		"motion":  pointFaults(1000, func(a *arguments, p api.Point) { a.motion = p }),
		"t":       expect.Ranged(0, 1000, func(a *arguments, n int) { a.t = n }),
		"cells":   pathFaults(256, func(a *arguments, l []api.Point) { a.cells = l }),
		"cell":    pointFaults(100000, func(a *arguments, p api.Point) { a.cell = p }),
		"horizon": expect.Ranged(1, 1000, func(a *arguments, n int) { a.horizon = n }),
		"height":  heightFaults(),
		"sun":     sunFaults(),
		"segment": segmentFaults(func(a *arguments, s [2]api.Point) { a.segment = s }), "crossing": segmentFaults(func(a *arguments, s [2]api.Point) { a.crossing = s }),
		"track": append(pathFaults(64, path), expect.Faults(api.ErrShort, path, nil, points(), points(0, 0), points(0, 100001))...),
		"beams": slices.Concat(
			expect.Faults(api.ErrMany, beams, make([][2]api.Point, 257), slices.Repeat([][2]api.Point{line(0, 0, 0, 100001)}, 257)),
			segmentFaults(func(a *arguments, s [2]api.Point) { a.beams[1] = s }), segmentFaults(func(a *arguments, s [2]api.Point) { a.beams = append(make([][2]api.Point, 255), s) }),
		),
	}
}

func heightFaults() []fault {
	height := func(a *arguments, x api.Interval) { a.height = x }
	return slices.Concat(
		expect.Ranged(1, 10000, func(a *arguments, n int) { a.height = to(n, 10) }), expect.Ranged(1, 10000, func(a *arguments, n int) { a.height = to(10, n) }), expect.Ranged(1, 10000, func(a *arguments, n int) { a.height = to(n, n) }), expect.Ranged(1, 10000, func(a *arguments, n int) { a.height = to(10000, n) }),
		expect.Faults(api.ErrOrder, height, to(2, 1), to(10000, 1), to(10000, 9999)),
	)
}

func sunFaults() []fault {
	put := func(a *arguments, v api.Vector) { a.sun = v }
	return slices.Concat(
		expect.Ranged(-4096, 4096, func(a *arguments, n int) { a.sun = sun(n, 0, 1) }), expect.Ranged(-4096, 4096, func(a *arguments, n int) { a.sun = sun(0, n, 4096) }), expect.Ranged(-4096, 4096, func(a *arguments, n int) { a.sun = sun(0, 0, n) }), expect.Ranged(-4096, 4096, func(a *arguments, n int) { a.sun = sun(n, n, 0) }), expect.Ranged(-4096, 4096, func(a *arguments, n int) { a.sun = sun(0, n, -1) }),
		expect.Faults(api.ErrZero, put, api.Vector{}),
		expect.Faults(api.ErrSpan, put, sun(1, 0, 0), sun(0, -1, 0), sun(4096, 4096, 0), sun(0, 0, -1), sun(3, -1, -4096)),
	)
}

func calls() []expect.Call[arguments] {
	list := func(l ...string) []string { return l }
	return []expect.Call[arguments]{
		{What: "CheckImage", Takes: list("image"), Do: func(a arguments) ([]any, api.Errno) { return expect.None(cloud.CheckImage(a.image)) }},
		{What: "Dark", Takes: list("image", "limit"), Do: func(a arguments) ([]any, api.Errno) { return expect.One(cloud.Dark(a.image, a.limit)) }},
		{What: "Clouds", Takes: list("image", "limit"), Do: func(a arguments) ([]any, api.Errno) { return expect.One(cloud.Clouds(a.image, a.limit)) }},
		{What: "Centre", Takes: list("cloud"), Do: func(a arguments) ([]any, api.Errno) { return expect.One(cloud.Centre(a.cloud)) }},
		{What: "Share", Takes: list("image", "limit"), Do: func(a arguments) ([]any, api.Errno) { return expect.One(cloud.Share(a.image, a.limit)) }},
		{What: "Panel", Takes: list("image"), Do: func(a arguments) ([]any, api.Errno) { return expect.One(cloud.Panel(a.image)) }},
		{What: "Difference", Takes: list("image", "other", "shift"), Do: func(a arguments) ([]any, api.Errno) { return expect.Two(cloud.Difference(a.image, a.other, a.shift)) }},
		{What: "Shift", Takes: list("image", "other", "most", "least"), Do: func(a arguments) ([]any, api.Errno) {
			return expect.Two(cloud.Shift(a.image, a.other, a.most, a.least))
		}},
		{What: "Second", Takes: list("image", "other", "most", "least"), Do: func(a arguments) ([]any, api.Errno) {
			return expect.One(cloud.Second(a.image, a.other, a.most, a.least))
		}},
		{What: "CheckDrift", Takes: list("drift"), Do: func(a arguments) ([]any, api.Errno) { return expect.None(cloud.CheckDrift(a.drift)) }},
		{What: "Seen", Takes: list("image", "other", "most", "least", "ticks", "blur"), Do: func(a arguments) ([]any, api.Errno) {
			return expect.One(cloud.Seen(a.image, a.other, a.most, a.least, a.ticks, a.blur))
		}},
		{What: "Both", Takes: list("drift", "second"), Do: func(a arguments) ([]any, api.Errno) { return expect.One(cloud.Both(a.drift, a.second)) }},
		{What: "Motions", Takes: list("drift"), Do: func(a arguments) ([]any, api.Errno) { return expect.One(cloud.Motions(a.drift)) }},
		{What: "Moved", Takes: list("motion", "ticks", "t"), Do: func(a arguments) ([]any, api.Errno) { return expect.One(cloud.Moved(a.motion, a.ticks, a.t)) }},
		{What: "Covered", Takes: list("image", "limit", "motion", "ticks", "t"), Do: func(a arguments) ([]any, api.Errno) {
			return expect.One(cloud.Covered(a.image, a.limit, a.motion, a.ticks, a.t))
		}},
		{What: "May", Takes: list("image", "limit", "drift", "t", "cells"), Do: func(a arguments) ([]any, api.Errno) {
			return expect.One(cloud.May(a.image, a.limit, a.drift, a.t, a.cells))
		}},
		{What: "Must", Takes: list("image", "limit", "drift", "t", "cells"), Do: func(a arguments) ([]any, api.Errno) {
			return expect.One(cloud.Must(a.image, a.limit, a.drift, a.t, a.cells))
		}},
		{What: "Window", Takes: list("image", "limit", "drift", "cell", "horizon"), Do: func(a arguments) ([]any, api.Errno) {
			return expect.One(cloud.Window(a.image, a.limit, a.drift, a.cell, a.horizon))
		}},
		{What: "Shadow", Takes: list("height", "sun"), Do: func(a arguments) ([]any, api.Errno) { return expect.One(cloud.Shadow(a.height, a.sun)) }},
		{What: "Cross", Takes: list("segment", "crossing"), Do: func(a arguments) ([]any, api.Errno) { return expect.One(cloud.Cross(a.segment, a.crossing)) }},
		{What: "Alarms", Takes: list("track", "beams"), Do: func(a arguments) ([]any, api.Errno) { return expect.One(cloud.Alarms(a.track, a.beams)) }},
		{What: "Print", Takes: list("drift"), Do: func(a arguments) ([]any, api.Errno) { return expect.One(cloud.Print(a.drift)) }},
	}
}

// isNothing reports whether all results are their zero values, where an empty list is one.
func isNothing(results []any) bool {
	return !slices.ContainsFunc(results, func(x any) bool {
		v := reflect.ValueOf(x)
		return !v.IsZero() && (v.Kind() != reflect.Slice || v.Len() > 0)
	})
}
