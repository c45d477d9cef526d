package light

import (
	"slices"
	"strconv"
	"strings"

	"spillage/api"
)

const maxDigits = 9

// lineForm is what a kind of line asks of its integers.
type lineForm struct {
	fits func(count int) bool
}

func lineForms() map[string]lineForm {
	return map[string]lineForm{
		"map": {fits: func(count int) bool { return count == 2 }},
		"row": {fits: func(count int) bool { return count >= 1 }},
	}
}

// Print returns the text of a map.
func Print(m Map) (string, api.Errno) {
	if e := CheckMap(m); e != api.OK {
		return "", e
	}
	var text strings.Builder
	text.WriteString(lineOf("map", m.Width, m.Height))
	for row := range slices.Chunk(gridOf(m).cells, m.Width) {
		text.WriteString(lineOf("row", row...))
	}
	return text.String(), api.OK
}

func lineOf(word string, numbers ...int) string {
	return strings.Join(append([]string{word}, mapped(numbers, strconv.Itoa)...), " ") + "\n"
}

// Parse returns the map of a text, and the index of the first line that is wrong.
func Parse(s string) (Map, int, api.Errno) {
	if len(s) > api.MaxLog {
		return Map{}, 0, api.ErrLong
	}
	lines := linesOf(s)
	if len(lines) == 0 {
		return Map{}, 0, api.ErrSyntax
	}
	forms := lineForms()
	var rows [][]int
	kind := "map"
	for i, line := range lines {
		row, ok := readLine(line, kind, forms[kind])
		if !ok {
			return Map{}, i, api.ErrSyntax
		}
		rows = append(rows, row)
		kind = "row"
	}
	m, e := assembled(rows[0][0], rows[0][1], rows[1:])
	if e != api.OK {
		return Map{}, len(lines), e
	}
	return m, 0, api.OK
}

// linesOf splits a text after each line feed.
func linesOf(s string) []string {
	lines := strings.SplitAfter(s, "\n")
	if last := len(lines) - 1; lines[last] == "" {
		lines = lines[:last]
	}
	return lines
}

// readLine returns the integers of a line of a kind, or false if it does not
// have its form.
func readLine(line, kind string, form lineForm) ([]int, bool) {
	body, ended := strings.CutSuffix(line, "\n")
	if !ended {
		return nil, false
	}
	left := words{rest: body, more: true}
	take := left.next
	if word, _ := take(); word != kind {
		return nil, false
	}
	numbers, ok := readNumbers(take)
	return numbers, ok && form.fits(len(numbers))
}

// words are what is left of a line.
type words struct {
	rest string
	more bool
}

// next takes the word before the next space; it may be empty.
func (w *words) next() (string, bool) {
	if !w.more {
		return "", false
	}
	word, rest, more := strings.Cut(w.rest, " ")
	w.rest, w.more = rest, more
	return word, true
}

// readNumbers returns the words that are left as integers, or false if one is
// none.
func readNumbers(take func() (string, bool)) ([]int, bool) {
	var numbers []int
	for {
		word, more := take()
		if !more {
			return numbers, true
		}
		n, ok := readInteger(word)
		if !ok {
			return nil, false
		}
		numbers = append(numbers, n)
	}
}

// readInteger returns the integer that a word tells in its one form.
func readInteger(word string) (int, bool) {
	digits := strings.TrimPrefix(word, "-")
	if len(digits) == 0 || len(digits) > maxDigits {
		return 0, false
	}
	if digits[0] == '0' && word != "0" {
		return 0, false
	}
	for _, r := range digits {
		if !isDigit(r) {
			return 0, false
		}
	}
	n, err := strconv.Atoi(word)
	return n, err == nil
}

// assembled returns the map with a width, a height and the integers of its
// rows.
func assembled(width, height int, rows [][]int) (Map, api.Errno) {
	if len(rows) != height {
		return Map{}, api.ErrShape
	}
	for _, row := range rows {
		if len(row) != width {
			return Map{}, api.ErrShape
		}
	}
	m, e := grid{width: width, height: height, cells: slices.Concat(rows...)}.toMap()
	if e == api.OK {
		e = CheckMap(m)
	}
	if e != api.OK {
		return Map{}, e
	}
	return m, api.OK
}
