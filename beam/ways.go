package beam

import (
	"cmp"
	"iter"
	"slices"

	"spillage/api"
	"spillage/common"
)

const (
	// none is the index of no station.
	none = -1
	// far is more steps than any least way takes.
	far = MaxStations * MaxSteps
)

// network is a right grid with its safe stations and moves.
type network struct {
	Grid
	byName map[string]int
	safe   []bool
	// steps are those of the safe move between two stations, or 0 if there is none.
	steps [][]int
}

// networkOf returns the network of a grid, or the first error of the grid and of
// the indices of stations that have to be safe.
func networkOf(g Grid, stations ...int) (network, api.Errno) {
	if e := CheckGrid(g); e != api.OK {
		return network{}, e
	}
	n := network{Grid: g, byName: map[string]int{}}
	for i, s := range g.Stations {
		n.byName[s.Name] = i
		n.safe = append(n.safe, g.isClear(line{s.Place, s.Place}))
		n.steps = append(n.steps, make([]int, len(g.Stations)))
	}
	for _, i := range g.safeMoves() {
		m := g.Moves[i]
		n.steps[m.From][m.To], n.steps[m.To][m.From] = m.Steps, m.Steps
	}
	return n, common.First(common.Mapped(stations, n.checkStation)...)
}

func (n network) has(station int) bool {
	return 0 <= station && station < len(n.Stations)
}

func (n network) isSafe(station int) bool {
	return n.has(station) && n.safe[station]
}

func (n network) checkIndex(station int) api.Errno {
	return common.When(!n.has(station), api.ErrUnknown)
}

func (n network) checkSafe(station int) api.Errno {
	return common.When(!n.isSafe(station), api.ErrHeld)
}

func (n network) checkStation(station int) api.Errno {
	return common.First(n.checkIndex(station), n.checkSafe(station))
}

// between returns the steps of the safe move between two stations, or 0 if there
// is none.
func (n network) between(a, b int) int {
	if !n.has(a) || !n.has(b) {
		return 0
	}
	return n.steps[a][b]
}

// checkMove returns ErrRule if no safe move joins two stations.
func (n network) checkMove(a, b int) api.Errno {
	return common.When(n.between(a, b) == 0, api.ErrRule)
}

// moves visits the stations to which safe moves lead from one, ascending, each
// with the steps of its move.
func (n network) moves(station int) iter.Seq2[int, int] {
	return func(yield func(int, int) bool) {
		for to, steps := range n.steps[station] {
			if steps > 0 && !yield(to, steps) {
				return
			}
		}
	}
}

// cost is how many steps and how many moves a way takes.
type cost struct {
	steps int
	moves int
}

func (c cost) plus(steps int) cost {
	return cost{steps: c.steps + steps, moves: c.moves + 1}
}

func (c cost) isBelow(d cost) bool {
	return cmp.Or(cmp.Compare(c.steps, d.steps), cmp.Compare(c.moves, d.moves)) < 0
}

// next returns the station to which the least way from one leads first, and what
// this way costs, by what the ways from there cost; or none if there is no way.
func (n network) next(station int, costs []cost) (int, cost) {
	next, least := none, cost{steps: far}
	for to, steps := range n.moves(station) {
		if c := costs[to].plus(steps); c.isBelow(least) {
			next, least = to, c
		}
	}
	return next, least
}

// costsTo returns what the least way from each station to one costs; its steps are
// far if there is none.
func (n network) costsTo(to int) []cost {
	costs := slices.Repeat([]cost{{steps: far}}, len(n.Stations))
	costs[to] = cost{}
	for range n.Stations {
		for at := range n.Stations {
			if at != to {
				_, costs[at] = n.next(at, costs)
			}
		}
	}
	return costs
}

// way returns the least way between two stations, or nothing if there is none.
func (n network) way(from, to int) []int {
	costs := n.costsTo(to)
	way := []int{from}
	for from != to {
		from, _ = n.next(from, costs)
		if from == none {
			return nil
		}
		way = append(way, from)
	}
	return way
}

// reached returns the stations to which there is a way from one, ascending.
func (n network) reached(from int) []int {
	var stations []int
	for at, c := range n.costsTo(from) {
		if c.steps < far {
			stations = append(stations, at)
		}
	}
	return stations
}

// Reached returns the stations that are reached from one.
func Reached(g Grid, from int) ([]int, api.Errno) {
	n, e := networkOf(g, from)
	if e != api.OK {
		return nil, e
	}
	return n.reached(from), api.OK
}

// Way returns the least way between two stations, and its steps.
func Way(g Grid, from, to int) ([]int, int, api.Errno) {
	n, e := networkOf(g, from, to)
	if e != api.OK {
		return nil, 0, e
	}
	way := n.way(from, to)
	if way == nil {
		return nil, 0, api.ErrNone
	}
	steps, _ := n.stepsOf(way)
	return way, steps, api.OK
}

// stepsOf returns the steps of a way, or ErrRule if no safe move joins two
// successive stations of it.
func (n network) stepsOf(way []int) (int, api.Errno) {
	steps := 0
	for i, to := range way[1:] {
		if e := n.checkMove(way[i], to); e != api.OK {
			return 0, e
		}
		steps += n.between(way[i], to)
	}
	return steps, api.OK
}

// Steps returns the steps of a way.
func Steps(g Grid, way []int) (int, api.Errno) {
	n, e := networkOf(g)
	if e = common.First(e, common.CheckLength(len(way), MaxWay)); e != api.OK {
		return 0, e
	}
	e = common.First(common.Mapped(way, n.checkIndex)...)
	if e = common.First(e, n.checkSafe(way[0])); e != api.OK {
		return 0, e
	}
	return n.stepsOf(way)
}

// Barrier returns a barrier between two stations.
func Barrier(g Grid, from, to int) ([]int, api.Errno) {
	n, e := networkOf(g, from, to)
	if e != api.OK {
		return nil, e
	}
	set := n.reached(from)
	if slices.Contains(set, to) {
		return nil, api.ErrRule
	}
	return set, api.OK
}

// isLeft reports whether a safe move leads out of a set of stations.
func (n network) isLeft(set []int) bool {
	found := false
search:
	for _, station := range set {
		for to := range n.moves(station) {
			if !slices.Contains(set, to) {
				found = true
				break search
			}
		}
	}
	return found
}

// checkSet returns the first error of an ascending list of stations.
func (n network) checkSet(set []int) api.Errno {
	if len(set) > MaxStations {
		return api.ErrMany
	}
	e := common.First(common.Mapped(set, n.checkIndex)...)
	for i := 1; i < len(set); i++ {
		e = common.First(e, common.When(set[i] <= set[i-1], api.ErrOrder))
	}
	return e
}

// CheckBarrier returns OK if a set is a barrier between two stations.
func CheckBarrier(g Grid, from, to int, set []int) api.Errno {
	n, e := networkOf(g, from, to)
	if e = common.First(e, n.checkSet(set)); e != api.OK {
		return e
	}
	isBarrier := slices.Contains(set, from) && !slices.Contains(set, to) && !n.isLeft(set)
	return common.When(!isBarrier, api.ErrProof)
}

// homeOf returns the home of a station, or none if it has none.
func (n network) homeOf(station int) int {
	if !n.isSafe(station) {
		return none
	}
	home, least := none, far
	for at, c := range n.costsTo(station) {
		if n.Stations[at].Kind == standby && c.steps < least {
			home, least = at, c.steps
		}
	}
	return home
}

// Homes returns the home of each station.
func Homes(g Grid) ([]int, api.Errno) {
	n, e := networkOf(g)
	if e != api.OK {
		return nil, e
	}
	var homes []int
	for station := range n.Stations {
		homes = append(homes, n.homeOf(station))
	}
	return homes, api.OK
}
