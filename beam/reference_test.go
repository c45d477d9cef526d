package beam_test

import (
	"math/big"
	"slices"

	"spillage/api"
	"spillage/beam"
)

// The functions of this file are the chapter's definitions, way by way and tick by tick, without a thought of how long they take.

func whole(n int) *big.Int { return big.NewInt(int64(n)) }

// fraction returns a part of 1, from 0 to 1, that is nearest to p/q.
func fraction(p, q int) *big.Rat {
	if q == 0 || p < 0 {
		return new(big.Rat)
	}
	if p > q {
		return big.NewRat(1, 1)
	}
	return big.NewRat(int64(p), int64(q))
}

// touches reports whether a line touches a zone, by its point that is nearest to the centre.
func touches(z beam.Zone, blur int, line [2]api.Point) bool {
	dx, dy := line[1].X-line[0].X, line[1].Y-line[0].Y
	cx, cy := z.Centre.X-line[0].X, z.Centre.Y-line[0].Y
	part := fraction(cx*dx+cy*dy, dx*dx+dy*dy)
	distance := new(big.Rat)
	for _, axis := range [2][2]int{{dx, cx}, {dy, cy}} {
		x := new(big.Rat).Mul(part, new(big.Rat).SetInt(whole(axis[0])))
		x.Sub(x, new(big.Rat).SetInt(whole(axis[1])))
		distance.Add(distance, x.Mul(x, x))
	}
	reach := z.Radius + blur
	return distance.Cmp(new(big.Rat).SetInt(whole(reach*reach))) <= 0
}

func isClear(g beam.Grid, line [2]api.Point) bool {
	for _, z := range g.Zones {
		if touches(z, g.Blur, line) {
			return false
		}
	}
	return true
}

func isSafe(g beam.Grid, station int) bool {
	place := g.Stations[station].Place
	return isClear(g, [2]api.Point{place, place})
}

func safeMoves(g beam.Grid) []int {
	var l []int
	for i, m := range g.Moves {
		if isClear(g, [2]api.Point{g.Stations[m.From].Place, g.Stations[m.To].Place}) {
			l = append(l, i)
		}
	}
	return l
}

// net is a grid with its safe stations, and the steps of the safe moves by their stations.
type net struct {
	beam.Grid
	safe  []bool
	joins map[[2]int]int
}

func netOf(g beam.Grid) net {
	n := net{Grid: g, joins: map[[2]int]int{}}
	for i := range g.Stations {
		n.safe = append(n.safe, isSafe(g, i))
	}
	for _, i := range safeMoves(g) {
		m := g.Moves[i]
		n.joins[[2]int{m.From, m.To}] = m.Steps
	}
	return n
}

// stepsBetween returns the steps of the safe move between two stations, or 0.
func stepsBetween(g net, a, b int) int {
	return g.joins[[2]int{min(a, b), max(a, b)}]
}

// neighbours returns the stations to which safe moves lead from one.
func neighbours(g net, station int) []int {
	var l []int
	for i := range g.Stations {
		if stepsBetween(g, station, i) > 0 {
			l = append(l, i)
		}
	}
	return l
}

// waysOn returns all ways to a station that begin with some stations, and have none twice.
func waysOn(g net, begin []int, to int) [][]int {
	last := begin[len(begin)-1]
	if last == to {
		return [][]int{begin}
	}
	var ways [][]int
	for _, next := range neighbours(g, last) {
		if !slices.Contains(begin, next) {
			ways = append(ways, waysOn(g, append(slices.Clone(begin), next), to)...)
		}
	}
	return ways
}

func stepsOf(g net, way []int) int {
	steps := 0
	for i := 1; i < len(way); i++ {
		steps += stepsBetween(g, way[i-1], way[i])
	}
	return steps
}

// leastWay returns the least way between two safe stations and its steps, or nil if there is none.
func leastWay(g net, from, to int) ([]int, int) {
	ways := waysOn(g, ints(from), to)
	if len(ways) == 0 {
		return nil, 0
	}
	way := slices.MinFunc(ways, func(a, b []int) int {
		if n := stepsOf(g, a) - stepsOf(g, b); n != 0 {
			return n
		}
		if n := len(a) - len(b); n != 0 {
			return n
		}
		return slices.Compare(a, b)
	})
	return way, stepsOf(g, way)
}

func reached(g net, from int) []int {
	l := ints(from)
	for i := 0; i < len(l); i++ {
		for _, next := range neighbours(g, l[i]) {
			if !slices.Contains(l, next) {
				l = append(l, next)
			}
		}
	}
	slices.Sort(l)
	return l
}

// isBarrier reports whether an ascending set of stations is a barrier between two ones.
func isBarrier(g net, from, to int, set []int) bool {
	for ends := range g.joins {
		if slices.Contains(set, ends[0]) != slices.Contains(set, ends[1]) {
			return false
		}
	}
	return slices.Contains(set, from) && !slices.Contains(set, to)
}

func homeOf(g net, station int) int {
	home, least := -1, 0
	if !g.safe[station] {
		return home
	}
	for to, s := range g.Stations {
		if s.Kind != "standby" || !g.safe[to] {
			continue
		}
		way, steps := leastWay(g, station, to)
		if way != nil && (home < 0 || steps < least) {
			home, least = to, steps
		}
	}
	return home
}

func homesOf(g net) []int {
	var l []int
	for i := range g.Stations {
		l = append(l, homeOf(g, i))
	}
	return l
}

func turnOf(m beam.Mirror) int {
	return append(slices.Clone(m.Way), m.At)[0]
}

func endOf(m beam.Mirror) int {
	return append(ints(m.At), m.Way...)[len(m.Way)]
}

// led returns a mirror led to a station, unchanged if there is no way.
func led(g net, m beam.Mirror, to int) beam.Mirror {
	way, _ := leastWay(g, turnOf(m), to)
	if way == nil {
		return m
	}
	if len(m.Way) > 0 {
		m.Way = append(ints(m.Way[0]), way[1:]...)
		return m
	}
	m.Way, m.Left = way[1:], 0
	if len(m.Way) > 0 {
		m.Left = stepsBetween(g, m.At, m.Way[0])
	}
	return m
}

// stepOf returns a mirror after a step to a tick.
func stepOf(g net, m beam.Mirror, tick, lease int) beam.Mirror {
	if tick-m.Heard > lease && g.Stations[endOf(m)].Kind == "focus" {
		m = led(g, m, homeOf(g, turnOf(m)))
	}
	if len(m.Way) == 0 {
		return m
	}
	m.Left--
	if m.Left > 0 {
		return m
	}
	m.At, m.Way = m.Way[0], m.Way[1:]
	if len(m.Way) > 0 {
		m.Left = stepsBetween(g, m.At, m.Way[0])
	}
	return m
}

func stepped(g net, f beam.Field) beam.Field {
	f = clonedField(f)
	f.Tick++
	for i, m := range f.Mirrors {
		f.Mirrors[i] = stepOf(g, m, f.Tick, f.Lease)
	}
	return f
}

// orderError returns the error of an order.
func orderError(g net, f beam.Field, o beam.Order) api.Errno {
	i := slices.IndexFunc(f.Mirrors, func(m beam.Mirror) bool { return m.Name == o.Mirror })
	to := slices.IndexFunc(g.Stations, func(s beam.Station) bool { return s.Name == o.Station })
	if i < 0 || to < 0 {
		return api.ErrUnknown
	}
	if !g.safe[to] {
		return api.ErrHeld
	}
	if way, _ := leastWay(g, turnOf(f.Mirrors[i]), to); way == nil {
		return api.ErrNone
	}
	return api.OK
}

// heard returns a field after an order, unchanged if that has an error.
func heard(g net, f beam.Field, o beam.Order) beam.Field {
	f = clonedField(f)
	if o.Lost || orderError(g, f, o) != api.OK {
		return f
	}
	to := slices.IndexFunc(g.Stations, func(s beam.Station) bool { return s.Name == o.Station })
	for i, m := range f.Mirrors {
		if m.Name == o.Mirror {
			f.Mirrors[i] = led(g, m, to)
			f.Mirrors[i].Heard = f.Tick
		}
	}
	return f
}

func run(g net, f beam.Field, rounds [][]beam.Order) beam.Field {
	f = clonedField(f)
	for _, orders := range rounds {
		for _, o := range orders {
			f = heard(g, f, o)
		}
		f = stepped(g, f)
	}
	return f
}

// standAt returns the names of the mirrors that stand at a station of one of some kinds.
func standAt(g net, f beam.Field, kinds ...string) []string {
	var l []string
	for _, m := range f.Mirrors {
		if len(m.Way) == 0 && slices.Contains(kinds, g.Stations[m.At].Kind) {
			l = append(l, m.Name)
		}
	}
	return l
}

func isDark(g net, f beam.Field) bool {
	return len(standAt(g, f, "standby", "stow")) == len(f.Mirrors)
}

func deadline(g net, f beam.Field) int {
	n := 0
	for ; !isDark(g, f); n++ {
		f = stepped(g, f)
	}
	return n
}

func defocused(g net, f beam.Field, sector string) beam.Field {
	f = clonedField(f)
	for i, m := range f.Mirrors {
		if m.Sector == sector {
			f.Mirrors[i] = led(g, m, homeOf(g, turnOf(m)))
			f.Mirrors[i].Heard = f.Tick
		}
	}
	return f
}
