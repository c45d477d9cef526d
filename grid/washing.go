package grid

import (
	"cmp"
	"iter"
	"slices"

	"spillage/api"
	"spillage/common"
)

// distances are the distances between stops.
type distances [][]int

func checkDistance(n int) api.Errno {
	return common.CheckRange(n, 0, MaxDistance)
}

// CheckStops returns the first error of distances between stops, or OK.
func CheckStops(d [][]int) api.Errno {
	e := common.First(
		common.When(len(d) == 0, api.ErrEmpty),
		common.CheckList(d, MaxStops, func(row []int) api.Errno {
			return common.When(len(row) != len(d), api.ErrShape)
		}),
	)
	if e != api.OK {
		return e
	}
	e = common.First(common.Mapped(slices.Concat(d...), checkDistance)...)
	for p := range common.Places(len(d), len(d)) {
		isStay, there, back := p.X == p.Y, d[p.Y][p.X], d[p.X][p.Y]
		e = common.First(e, common.When(isStay && there != 0 || there != back, api.ErrForm))
	}
	return e
}

// check returns the first error of a round.
func (d distances) check(stops []int) api.Errno {
	if len(stops) != len(d) {
		return api.ErrShape
	}
	e := common.CheckList(stops, MaxStops, func(stop int) api.Errno {
		return common.When(stop < 0 || stop >= len(d), api.ErrUnknown)
	})
	for i, stop := range stops {
		e = common.First(e, common.When(slices.Contains(stops[:i], stop), api.ErrTwice))
	}
	return common.First(e, common.When(stops[0] != 0, api.ErrRule))
}

// length returns the length of a right round.
func (d distances) length(stops []int) int {
	sum := 0
	for i, stop := range stops {
		next := stops[(i+1)%len(stops)]
		sum += d[stop][next]
	}
	return sum
}

// Length returns the length of a round.
func Length(d [][]int, round []int) (int, api.Errno) {
	e := CheckStops(d)
	if e == api.OK {
		e = distances(d).check(round)
	}
	if e != api.OK {
		return 0, e
	}
	return distances(d).length(round), api.OK
}

// tour is a round with its length.
type tour struct {
	stops  []int
	length int
}

// compare returns -1 for a tour that is shorter than another one, or as short and
// before it.
func (x tour) compare(y tour) int {
	return cmp.Or(cmp.Compare(x.length, y.length), slices.Compare(x.stops, y.stops))
}

// tours visits all tours, in the order of their stops.
func (d distances) tours() iter.Seq[tour] {
	return func(yield func(tour) bool) {
		d.visit([]int{0}, yield)
	}
}

// visit visits all tours that begin with some stops, and reports whether to go on.
func (d distances) visit(begin []int, yield func(tour) bool) bool {
	if len(begin) == len(d) {
		return yield(tour{stops: begin, length: d.length(begin)})
	}
	for stop := range len(d) {
		isNew := !slices.Contains(begin, stop)
		if isNew && !d.visit(append(slices.Clone(begin), stop), yield) {
			return false
		}
	}
	return true
}

// short returns the short bound.
func (d distances) short() int {
	switch len(d) {
	case 1:
		return 0
	case 2:
		return 2 * d[0][1]
	}
	sum := 0
	for stop, row := range d {
		others := slices.Delete(slices.Clone(row), stop, stop+1)
		slices.Sort(others)
		sum += others[0] + others[1]
	}
	return common.Raised(sum, 2)
}

// shortest returns the shortest tour.
func (d distances) shortest() tour {
	var found []tour
	bound := d.short()
search:
	for x := range d.tours() {
		found = append(found, x)
		// None is shorter, and those that are as short come later.
		if x.length == bound {
			break search
		}
	}
	return slices.MinFunc(found, tour.compare)
}

// Route returns the shortest round, and its length.
func Route(d [][]int) ([]int, int, api.Errno) {
	if e := CheckStops(d); e != api.OK {
		return nil, 0, e
	}
	best := distances(d).shortest()
	return best.stops, best.length, api.OK
}

// Short returns a length that no round is below.
func Short(d [][]int) (int, api.Errno) {
	if e := CheckStops(d); e != api.OK {
		return 0, e
	}
	return distances(d).short(), api.OK
}

func checkSoil(n int) api.Errno {
	return common.CheckRange(n, 0, MaxSoil)
}

// checkDay returns the first error of the mirrors that are washed on a day.
func checkDay(day []int, mirrors int) api.Errno {
	return common.CheckList(day, api.MaxList, func(mirror int) api.Errno {
		return common.When(mirror < 0 || mirror >= mirrors, api.ErrUnknown)
	})
}

// setOf returns the set of some numbers.
func setOf(l []int) map[int]bool {
	set := map[int]bool{}
	for _, n := range l {
		set[n] = true
	}
	return set
}

// Soiled returns the soil of mirrors after some days of washing.
func Soiled(soil []int, rate int, washed [][]int) ([]int, int, api.Errno) {
	e := common.First(
		common.CheckList(soil, api.MaxList, checkSoil),
		checkSoil(rate),
		common.CheckList(washed, MaxDays, func(day []int) api.Errno { return checkDay(day, len(soil)) }),
	)
	if e != api.OK {
		return nil, 0, e
	}
	left, lost := slices.Clone(soil), 0
	for _, day := range washed {
		isWashed := setOf(day)
		for mirror := range left {
			if isWashed[mirror] {
				left[mirror] = 0
			}
			lost += left[mirror]
			left[mirror] = min(left[mirror]+rate, MaxSoil)
		}
	}
	return left, lost, api.OK
}
