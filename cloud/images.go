package cloud

import (
	"cmp"
	"iter"
	"maps"
	"slices"

	"spillage/api"
	"spillage/common"
	"spillage/light"
)

// CheckImage returns the first error of an image, or OK.
func CheckImage(m light.Map) api.Errno {
	isBelow := func(x float32) bool { return x < 0 }
	return common.First(
		light.CheckMap(m),
		common.When(slices.ContainsFunc(m.Samples, isBelow), api.ErrRange),
	)
}

func checkLimit(limit float32) api.Errno {
	return common.First(light.CheckSample(limit), common.When(limit <= 0, api.ErrRange))
}

func checkPoint(p api.Point) api.Errno {
	return common.CheckPoint(p, -MaxFar, MaxFar)
}

// cellsOf visits the cells of an image in order, each one with its integer.
func cellsOf(m light.Map) iter.Seq2[api.Point, int] {
	return func(yield func(api.Point, int) bool) {
		for i := range m.Width * m.Height {
			p := api.Point{X: i % m.Width, Y: i / m.Width}
			if !yield(p, common.IntegerOf(m.Samples[i])) {
				return
			}
		}
	}
}

// inOrder compares cells row by row, in each row by their columns.
func inOrder(p, q api.Point) int {
	return cmp.Or(cmp.Compare(p.Y, q.Y), cmp.Compare(p.X, q.X))
}

// sky is the dark cells of an image.
type sky struct {
	dark   []api.Point
	isDark map[api.Point]bool
}

// skyOf returns the sky of an image by a limit, or the first error of both.
func skyOf(m light.Map, limit float32) (sky, api.Errno) {
	if e := common.First(CheckImage(m), checkLimit(limit)); e != api.OK {
		return sky{}, e
	}
	s := sky{isDark: map[api.Point]bool{}}
	for p, n := range cellsOf(m) {
		if n >= common.IntegerOf(limit) {
			s.dark = append(s.dark, p)
			s.isDark[p] = true
		}
	}
	return s, api.OK
}

// Dark returns the dark cells of an image.
func Dark(m light.Map, limit float32) ([]api.Point, api.Errno) {
	s, e := skyOf(m, limit)
	return s.dark, e
}

// Clouds returns the clouds of an image.
func Clouds(m light.Map, limit float32) ([]Cloud, api.Errno) {
	s, e := skyOf(m, limit)
	if e != api.OK {
		return nil, e
	}
	var clouds []Cloud
	left := maps.Clone(s.isDark)
	for _, p := range s.dark {
		if left[p] {
			clouds = append(clouds, taken(left, p))
		}
	}
	return clouds, api.OK
}

// taken takes the cloud of a cell out of the dark cells that are left.
func taken(left map[api.Point]bool, p api.Point) Cloud {
	cloud := Cloud{p}
	delete(left, p)
	for i := 0; i < len(cloud); i++ {
		for _, q := range common.Beside(cloud[i]) {
			if left[q] {
				delete(left, q)
				cloud = append(cloud, q)
			}
		}
	}
	slices.SortFunc(cloud, inOrder)
	return cloud
}

// Centre returns the mean of the cells of a cloud.
func Centre(c Cloud) ([2]api.Ratio, api.Errno) {
	e := common.First(
		common.When(len(c) == 0, api.ErrEmpty),
		common.CheckList(c, api.MaxSamples, checkPoint),
	)
	if e != api.OK {
		return [2]api.Ratio{}, e
	}
	var sum api.Point
	for _, p := range c {
		sum = common.Plus(sum, p)
	}
	return [2]api.Ratio{common.Quotient(sum.X, len(c)), common.Quotient(sum.Y, len(c))}, api.OK
}

// Share returns the share of dark cells.
func Share(m light.Map, limit float32) (api.Ratio, api.Errno) {
	s, e := skyOf(m, limit)
	if e != api.OK {
		return api.Ratio{}, e
	}
	return common.Quotient(len(s.dark), len(m.Samples)), api.OK
}

// Panel returns the panel of an image.
func Panel(m light.Map) ([4]complex128, api.Errno) {
	if e := CheckImage(m); e != api.OK {
		return [4]complex128{}, e
	}
	powers := [4]complex128{1, -1i, -1, 1i}
	var panel [4]complex128
	for p, n := range cellsOf(m) {
		for k := range panel {
			panel[k] += complex(float64(n), 0) * powers[k*p.X%len(powers)]
		}
	}
	return panel, api.OK
}
