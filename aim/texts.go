package aim

import (
	"slices"
	"strings"

	"spillage/api"
	"spillage/common"
)

// The words of a plan's text.
const (
	kind    = "aim"
	standby = "none"
)

// Print returns the text of a plan.
func Print(l []Spot, p []int) (string, api.Errno) {
	if e := common.First(checkSpots(l), checkPlan(l, p)); e != api.OK {
		return "", e
	}
	var text strings.Builder
	for i, aim := range p {
		text.WriteString(lineOf(l[i], aim))
	}
	return text.String(), api.OK
}

// lineOf returns the line of a spot with the index of its aim, or None.
func lineOf(s Spot, aim int) string {
	start := kind + " " + s.Name
	if aim == None {
		return common.Line(start + " " + standby)
	}
	return common.Line(start, s.Aims[aim].X, s.Aims[aim].Y)
}

// Parse returns the plan with a text, or the index of the first line that is wrong.
func Parse(l []Spot, s string) ([]int, int, api.Errno) {
	if e := checkSpots(l); e != api.OK {
		return nil, 0, e
	}
	read := func(i int, line string) (int, api.Errno) {
		x, ok := readLine(line)
		if !ok {
			return 0, api.ErrSyntax
		}
		if i >= len(l) || l[i].Name != x.name {
			return 0, api.ErrShape
		}
		return x.aimOf(l[i])
	}
	return common.ParsedNumbered(s, read, func(p []int) api.Errno {
		return common.When(len(p) < len(l), api.ErrShape)
	})
}

// entry is what a line tells: the name of a mirror, and the place of its aim, or
// that it is on standby.
type entry struct {
	name      string
	isStandby bool
	at        api.Point
}

// aimOf returns the index of the told aim of a spot, or ErrUnknown if it has no
// such aim.
func (x entry) aimOf(s Spot) (int, api.Errno) {
	if x.isStandby {
		return None, api.OK
	}
	aim := slices.Index(s.Aims, x.at)
	return aim, common.When(aim < 0, api.ErrUnknown)
}

// readLine returns what a line tells, or false if it does not have its form.
func readLine(line string) (entry, bool) {
	left, ok := common.WordsOf(line, kind)
	if !ok {
		return entry{}, false
	}
	take := left.Next
	name, _ := take()
	if name == "" {
		return entry{}, false
	}
	if left.Only(standby) {
		return entry{name: name, isStandby: true}, true
	}
	l, ok := common.Integers(take)
	if !ok || len(l) != 2 {
		return entry{}, false
	}
	return entry{name: name, at: api.Point{X: l[0], Y: l[1]}}, true
}
