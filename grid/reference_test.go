package grid_test

import (
	"math"
	"math/big"
	"slices"

	"spillage/api"
	"spillage/grid"
)

// What the tests compare results with: the definitions of the chapter, followed as plainly as possible.

// powerOf returns the parts of -i to the power of n.
func powerOf(n int) api.Gauss {
	x := z(1, 0)
	for range n {
		x = times(x, z(0, -1))
	}
	return x
}

// elementOf returns the element k of the transform of four integers.
func elementOf(l []int, k int) api.Gauss {
	sum := z(0, 0)
	for n, x := range l {
		by := powerOf(k * n)
		sum = z(sum.Re+x*by.Re, sum.Im+x*by.Im)
	}
	return sum
}

func rat(a, b int) *big.Rat { return big.NewRat(int64(a), int64(b)) }

// inStepOf compares quotients: of the parts, and of the squares.
func inStepOf(a, b api.Gauss, w grid.Window) bool {
	x := times(b, z(a.Re, -a.Im))
	if x.Re <= 0 {
		return false
	}
	turned := rat(x.Im, x.Re)
	size := rat(b.Re*b.Re+b.Im*b.Im, a.Re*a.Re+a.Im*a.Im)
	size.Mul(size, rat(100, 1))
	return turned.Abs(turned).Cmp(rat(w.Num, w.Den)) <= 0 && size.Cmp(rat(w.Least, 1)) >= 0 && size.Cmp(rat(w.Most, 1)) <= 0
}

// joinedOf looks at as many indices as hold says before each one, or returns -1.
func joinedOf(a, b []api.Gauss, w grid.Window, hold int) int {
	for i := hold - 1; i < len(a); i++ {
		all := true
		for k := i - hold + 1; k <= i; k++ {
			all = all && inStepOf(a[k], b[k], w)
		}
		if all {
			return i
		}
	}
	return -1
}

func quadrantOf(x api.Gauss) int {
	switch {
	case x.Re > 0 && x.Im >= 0:
		return 0
	case x.Re <= 0 && x.Im > 0:
		return 1
	case x.Re < 0 && x.Im <= 0:
		return 2
	}
	return 3
}

// slipOf adds up the changes, or returns false if one is not known.
func slipOf(a, b []api.Gauss) (int, bool) {
	sum := 0
	for i := 1; i < len(a); i++ {
		before, after := quadrantOf(times(b[i-1], z(a[i-1].Re, -a[i-1].Im))), quadrantOf(times(b[i], z(a[i].Re, -a[i].Im)))
		switch {
		case before == after:
		case before+1 == after || before == 3 && after == 0:
			sum++
		case before-1 == after || before == 0 && after == 3:
			sum--
		default:
			return 0, false
		}
	}
	return sum, true
}

func energiesOf(l []int) [3]int {
	var sums [3]int
	for i := 0; i < len(l); i += 4 {
		for k := range sums {
			x := elementOf(l[i:i+4], k)
			sums[k] += x.Re*x.Re + x.Im*x.Im
		}
	}
	return sums
}

// turnsOf adds up the angles under which the lines from response to response are seen from -1, or returns false if one has it on it.
func turnsOf(l []complex128) (int, bool) {
	sum := 0.0
	for i, x := range l {
		a, b := x+1, l[(i+1)%len(l)]+1
		cross, dot := real(a)*imag(b)-imag(a)*real(b), real(a)*real(b)+imag(a)*imag(b)
		if cross == 0 && dot <= 0 {
			return 0, false
		}
		sum += math.Atan2(cross, dot)
	}
	return int(math.Round(sum / (2 * math.Pi))), true
}

// leftOf returns the level after a quarter hour, and what is spilled.
func leftOf(p grid.Plant, level int, q grid.Quarter, units int) (int, int) {
	level += q.Heat - units
	spilled := 0
	for level > p.Storage {
		level, spilled = level-1, spilled+1
	}
	return level, spilled
}

// toldOf follows a right dispatch, with its levels.
func toldOf(p grid.Plant, l []grid.Quarter, d []int) (grid.Told, []int) {
	x, levels := told(0, p.Level, 0), ints(p.Level)
	for i, q := range l {
		left, spilled := leftOf(p, x.Left, q, d[i])
		x = told(x.Income+q.Price*d[i], left, x.Spilled+spilled)
		levels = append(levels, left)
	}
	return x, levels
}

// dispatchesOf visits all dispatches, in their order.
func dispatchesOf(p grid.Plant, l []grid.Quarter, level int, done []int, use func(d []int)) {
	if len(done) == len(l) {
		use(slices.Clone(done))
		return
	}
	q := l[len(done)]
	for units := 0; units <= p.Most && units <= level+q.Heat; units++ {
		left, _ := leftOf(p, level, q, units)
		dispatchesOf(p, l, left, append(done, units), use)
	}
}

// bestOf tries all dispatches, and keeps the first one of the best ones.
func bestOf(p grid.Plant, l []grid.Quarter) ([]int, grid.Told) {
	var best []int
	var most grid.Told
	tried := 0
	dispatchesOf(p, l, p.Level, nil, func(d []int) {
		x, _ := toldOf(p, l, d)
		if tried == 0 || x.Income > most.Income || x.Income == most.Income && x.Left > most.Left {
			best, most = d, x
		}
		tried++
	})
	return best, most
}

// backwardsOf finds the best dispatch from the last quarter hour on, for all levels; it is the same, for greater plants.
func backwardsOf(p grid.Plant, l []grid.Quarter) ([]int, grid.Told) {
	type rest struct{ units, income, left int }
	table := make([][]rest, len(l)+1)
	for level := range p.Storage + 1 {
		table[len(l)] = append(table[len(l)], rest{left: level})
	}
	for i := len(l) - 1; i >= 0; i-- {
		for level := range p.Storage + 1 {
			var best rest
			for units := 0; units <= p.Most && units <= level+l[i].Heat; units++ {
				left, _ := leftOf(p, level, l[i], units)
				next := table[i+1][left]
				x := rest{units: units, income: next.income + l[i].Price*units, left: next.left}
				if units == 0 || x.income > best.income || x.income == best.income && x.left > best.left {
					best = x
				}
			}
			table[i] = append(table[i], best)
		}
	}
	var d []int
	level := p.Level
	for i, q := range l {
		d = append(d, table[i][level].units)
		level, _ = leftOf(p, level, q, d[i])
	}
	x, _ := toldOf(p, l, d)
	return d, x
}

func above(a, b int) int {
	if a > b {
		return a - b
	}
	return 0
}

func boundOf(p grid.Plant, l []grid.Quarter, values []int) int {
	if len(l) == 0 {
		return 0
	}
	sum := values[0] * p.Level
	for i, q := range l {
		sum += p.Most*above(q.Price, values[i]) + values[i]*q.Heat
		if i > 0 {
			sum += p.Storage * above(values[i], values[i-1])
		}
	}
	return sum
}

func settledOf(l []grid.Quarter, offered, delivered []int, fine int) (int, []grid.Shortfall) {
	bill, lacking := 0, 0
	var out []grid.Shortfall
	for i, q := range l {
		bill += q.Price * delivered[i]
		if by := above(offered[i], delivered[i]); by > 0 {
			lacking += by
			out = append(out, grid.Shortfall{Quarter: i, By: by})
		}
	}
	return bill - fine*lacking, out
}

func lengthOf(d [][]int, round []int) int {
	sum := d[round[len(round)-1]][round[0]]
	for i := 1; i < len(round); i++ {
		sum += d[round[i-1]][round[i]]
	}
	return sum
}

// roundsOf returns all rounds: the stop 0, and what follows in each order of the other ones.
func roundsOf(n int) [][]int {
	if n == 1 {
		return [][]int{{0}}
	}
	var out [][]int
	for _, round := range roundsOf(n - 1) {
		for place := 1; place <= len(round); place++ {
			out = append(out, slices.Insert(slices.Clone(round), place, n-1))
		}
	}
	return out
}

func routeOf(d [][]int) ([]int, int) {
	rounds := roundsOf(len(d))
	slices.SortFunc(rounds, slices.Compare)
	best := rounds[0]
	for _, round := range rounds {
		if lengthOf(d, round) < lengthOf(d, best) {
			best = round
		}
	}
	return best, lengthOf(d, best)
}

// shortOf looks for the two nearest other stops of each stop.
func shortOf(d [][]int) int {
	switch len(d) {
	case 1:
		return 0
	case 2:
		return d[0][1] + d[1][0]
	}
	sum := 0
	for i := range d {
		least := 1 << 60
		for j := range d {
			for k := range j {
				if i != j && i != k {
					least = min(least, d[i][j]+d[i][k])
				}
			}
		}
		sum += least
	}
	return (sum + 1) / 2
}

// soiledOf follows one mirror after the other.
func soiledOf(soil []int, rate int, washed [][]int) ([]int, int) {
	out, lost := slices.Clone(soil), 0
	for mirror := range out {
		for _, day := range washed {
			if slices.Contains(day, mirror) {
				out[mirror] = 0
			}
			lost += out[mirror]
			if out[mirror] += rate; out[mirror] > 10000 {
				out[mirror] = 10000
			}
		}
	}
	return out, lost
}
