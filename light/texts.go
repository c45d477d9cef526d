package light

import (
	"slices"
	"strings"

	"spillage/api"
	"spillage/common"
)

// lineForm is what a kind of line asks of its integers.
type lineForm struct {
	fits func(count int) bool
}

func lineForms() map[string]lineForm {
	return map[string]lineForm{
		"map": {fits: func(count int) bool { return count == 2 }},
		"row": {fits: func(count int) bool { return count >= 1 }},
	}
}

// Print returns the text of a map.
func Print(m Map) (string, api.Errno) {
	if e := CheckMap(m); e != api.OK {
		return "", e
	}
	var text strings.Builder
	text.WriteString(common.Line("map", m.Width, m.Height))
	for row := range slices.Chunk(gridOf(m).cells, m.Width) {
		text.WriteString(common.Line("row", row...))
	}
	return text.String(), api.OK
}

// Parse returns the map of a text, and the index of the first line that is wrong.
func Parse(s string) (Map, int, api.Errno) {
	forms := lineForms()
	var rows [][]int
	kind := "map"
	index, e := common.ReadLines(s, api.MaxLog, func(_ int, line string) api.Errno {
		row, ok := readLine(line, kind, forms[kind])
		rows = append(rows, row)
		kind = "row"
		return common.When(!ok, api.ErrSyntax)
	})
	if e = common.First(e, common.When(index == 0, api.ErrSyntax)); e != api.OK {
		return Map{}, index, e
	}
	m, e := assembled(rows[0][0], rows[0][1], rows[1:])
	if e != api.OK {
		return Map{}, index, e
	}
	return m, 0, api.OK
}

// readLine returns the integers of a line of a kind, or false if it does not
// have its form.
func readLine(line, kind string, form lineForm) ([]int, bool) {
	left, ok := common.WordsOf(line, kind)
	if !ok {
		return nil, false
	}
	numbers, ok := common.Integers(left.Next)
	return numbers, ok && form.fits(len(numbers))
}

// assembled returns the map with a width, a height and the integers of its
// rows.
func assembled(width, height int, rows [][]int) (Map, api.Errno) {
	if len(rows) != height {
		return Map{}, api.ErrShape
	}
	for _, row := range rows {
		if len(row) != width {
			return Map{}, api.ErrShape
		}
	}
	m, e := grid{width: width, height: height, cells: slices.Concat(rows...)}.toMap()
	if e == api.OK {
		e = CheckMap(m)
	}
	if e != api.OK {
		return Map{}, e
	}
	return m, api.OK
}
