package beam

import (
	"slices"
	"strings"

	"spillage/api"
	"spillage/common"
)

// The first words of lines.
const (
	gridWord    = "grid"
	stationWord = "station"
	moveWord    = "move"
	zoneWord    = "zone"
)

// Print returns the text of a grid.
func Print(g Grid) (string, api.Errno) {
	if e := CheckGrid(g); e != api.OK {
		return "", e
	}
	lines := slices.Concat(
		[]string{common.Line(gridWord, g.Blur)},
		common.Mapped(g.Stations, func(s Station) string {
			return common.Line(stationWord+" "+s.Name+" "+s.Kind, s.Place.X, s.Place.Y)
		}),
		common.Mapped(g.Moves, func(m Move) string {
			return common.Line(moveWord, m.From, m.To, m.Steps)
		}),
		common.Mapped(g.Zones, func(z Zone) string {
			return common.Line(zoneWord+" "+z.Name, z.Centre.X, z.Centre.Y, z.Radius)
		}),
	)
	return strings.Join(lines, ""), api.OK
}

// lineForm is the first word of a line, how many words and numbers follow, and
// how a grid grows by them.
type lineForm struct {
	first   string
	words   int
	numbers int
	add     func(g Grid, words []string, numbers []int) Grid
}

// lineForms returns the forms of lines, in the order of a text.
func lineForms() []lineForm {
	return []lineForm{
		{first: gridWord, numbers: 1, add: withBlur},
		{first: stationWord, words: 2, numbers: 2, add: withStation},
		{first: moveWord, numbers: 3, add: withMove},
		{first: zoneWord, words: 1, numbers: 3, add: withZone},
	}
}

func withBlur(g Grid, _ []string, numbers []int) Grid {
	g.Blur = numbers[0]
	return g
}

func withStation(g Grid, words []string, numbers []int) Grid {
	g.Stations = append(g.Stations, Station{
		Name:  words[0],
		Kind:  words[1],
		Place: api.Point{X: numbers[0], Y: numbers[1]},
	})
	return g
}

func withMove(g Grid, _ []string, numbers []int) Grid {
	g.Moves = append(g.Moves, Move{From: numbers[0], To: numbers[1], Steps: numbers[2]})
	return g
}

func withZone(g Grid, words []string, numbers []int) Grid {
	g.Zones = append(g.Zones, Zone{
		Name:   words[0],
		Centre: api.Point{X: numbers[0], Y: numbers[1]},
		Radius: numbers[2],
	})
	return g
}

// read returns the grid that grows by a line, or false if the line does not have
// the form.
func (x lineForm) read(g Grid, line string) (Grid, bool) {
	left, ok := common.WordsOf(line, x.first)
	if !ok {
		return Grid{}, false
	}
	take := left.Next
	words := make([]string, x.words)
	for i := range words {
		words[i], _ = take()
	}
	numbers, ok := common.Integers(take)
	isBelow := func(n int) bool { return n < 0 }
	if !ok || len(numbers) != x.numbers || slices.Contains(words, "") || slices.ContainsFunc(numbers, isBelow) {
		return Grid{}, false
	}
	return x.add(g, words, numbers), true
}

// reader is a grid that grows by lines; no line may have a form before the last
// one.
type reader struct {
	Grid
	last int
}

// readLine lets the grid grow by the line with an index.
func (r *reader) readLine(i int, line string) api.Errno {
	for n, form := range lineForms() {
		// The first form is that of the first line alone.
		isNext := n >= r.last && (n == 0) == (i == 0)
		if g, ok := form.read(r.Grid, line); ok && isNext {
			r.Grid, r.last = g, n
			return api.OK
		}
	}
	return api.ErrSyntax
}

// Parse returns the grid of a text, and the index of the first line that is wrong.
func Parse(s string) (Grid, int, api.Errno) {
	var r reader
	index, e := common.ReadLines(s, api.MaxText, r.readLine)
	e = common.First(e, common.When(index == 0, api.ErrSyntax), CheckGrid(r.Grid))
	if e != api.OK {
		return Grid{}, index, e
	}
	return r.Grid, 0, api.OK
}
