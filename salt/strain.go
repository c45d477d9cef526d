package salt

import (
	"slices"

	"spillage/api"
	"spillage/common"
)

func checkStrain(n int) api.Errno {
	return common.CheckRange(n, -MaxStrain, MaxStrain)
}

func checkHistory(l []int) api.Errno {
	return common.CheckList(l, MaxHistory, checkStrain)
}

// isBetween reports whether n lies between two integers that it is not.
func isBetween(n, before, after int) bool {
	return (before < n) == (n < after)
}

// turns returns the turns of a right history.
func turns(l []int) []int {
	l = slices.Compact(slices.Clone(l))
	var left []int
	for i, n := range l {
		isEnd := i == 0 || i == len(l)-1
		if isEnd || !isBetween(n, l[i-1], l[i+1]) {
			left = append(left, n)
		}
	}
	return left
}

// Turns returns the turns of a history.
func Turns(l []int) ([]int, api.Errno) {
	if e := checkHistory(l); e != api.OK {
		return nil, e
	}
	return turns(l), api.OK
}

// four are the last turns on a stack.
type four [4]int

// haveCycle reports whether the middle two are a cycle. Since turns go up and down,
// these differ by no more than the first two, and by no more than the last two,
// exactly if all four are in order, up or down, once the middle two have changed
// places.
func (l four) haveCycle() bool {
	l[1], l[2] = l[2], l[1]
	up := l
	slices.Sort(up[:])
	down := up
	slices.Reverse(down[:])
	return l == up || l == down
}

// endsInCycle reports whether the last four turns of a stack have a cycle.
func endsInCycle(stack []int) bool {
	var last four
	if len(stack) < len(last) {
		return false
	}
	copy(last[:], stack[len(stack)-len(last):])
	return last.haveCycle()
}

// Rainflow returns the cycles of a history, and the rest.
func Rainflow(l []int) ([]Cycle, []int, api.Errno) {
	if e := checkHistory(l); e != api.OK {
		return nil, nil, e
	}
	var cycles []Cycle
	var stack []int
	for _, turn := range turns(l) {
		stack = append(stack, turn)
		for endsInCycle(stack) {
			from, to := len(stack)-3, len(stack)-2
			cycles = append(cycles, Cycle{From: stack[from], To: stack[to]})
			stack = slices.Delete(stack, from, to+1)
		}
	}
	return cycles, stack, api.OK
}

func checkCycle(c Cycle) api.Errno {
	return common.First(checkStrain(c.From), checkStrain(c.To))
}

func checkCycles(l []Cycle) api.Errno {
	return common.CheckList(l, MaxHistory, checkCycle)
}

func checkClass(c Class) api.Errno {
	return common.First(
		common.CheckRange(c.Range, 1, MaxRange),
		common.CheckRange(c.Damage, 0, MaxDamage),
	)
}

// isBelow reports whether both numbers of the class are below those of another one.
func (c Class) isBelow(d Class) bool {
	return c.Range < d.Range && c.Damage < d.Damage
}

// CheckClasses returns the first error of classes, or OK.
func CheckClasses(l []Class) api.Errno {
	if e := common.CheckLength(len(l), MaxClasses); e != api.OK {
		return e
	}
	return common.CheckAscending(l, checkClass, Class.isBelow)
}

// none is the index of the class of a range that is in none.
const none = -1

// classOf returns the index of the class of a cycle's range, or none.
func classOf(c Cycle, classes []Class) int {
	class := none
	for i, x := range classes {
		if x.Range <= max(c.To-c.From, c.From-c.To) {
			class = i
		}
	}
	return class
}

// damageOf returns the damage of a cycle's range.
func damageOf(c Cycle, classes []Class) int {
	class := classOf(c, classes)
	if class == none {
		return 0
	}
	return classes[class].Damage
}

// Counted returns how many cycles are in each class.
func Counted(l []Cycle, classes []Class) ([]int, api.Errno) {
	if e := common.First(checkCycles(l), CheckClasses(classes)); e != api.OK {
		return nil, e
	}
	counts := make([]int, len(classes))
	for _, c := range l {
		if class := classOf(c, classes); class != none {
			counts[class]++
		}
	}
	return counts, api.OK
}

// Damage returns the damage of cycles and a rest.
func Damage(l []Cycle, rest []int, classes []Class) (int, api.Errno) {
	e := common.First(checkCycles(l), checkHistory(rest), CheckClasses(classes))
	if e != api.OK {
		return 0, e
	}
	sum := 0
	for _, c := range l {
		sum += 2 * damageOf(c, classes)
	}
	for i := 1; i < len(rest); i++ {
		sum += damageOf(Cycle{From: rest[i-1], To: rest[i]}, classes)
	}
	return sum, api.OK
}
