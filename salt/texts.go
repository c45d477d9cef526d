package salt

import (
	"strings"

	"spillage/api"
	"spillage/common"
)

// The first words of lines.
const (
	tankWord  = "tank"
	layerWord = "layer"
)

// maxDigits is one more than integers of other texts have.
const maxDigits = 10

// Print returns the text of a tank.
func Print(t Tank) (string, api.Errno) {
	if e := CheckTank(t); e != api.OK {
		return "", e
	}
	layers := common.Mapped(t.Layers, func(x Layer) string {
		return common.Line(layerWord, x.Amount, x.Heat)
	})
	return common.Line(tankWord, t.Room) + strings.Join(layers, ""), api.OK
}

// Parse returns the tank of a text, and the index of the first line that is wrong.
func Parse(s string) (Tank, int, api.Errno) {
	var t Tank
	index, e := common.ReadLines(s, api.MaxText, t.readLine)
	e = common.First(e, common.When(index == 0, api.ErrSyntax), CheckTank(t))
	if e != api.OK {
		return Tank{}, index, e
	}
	return t, 0, api.OK
}

// readLine lets the tank get what the line with an index tells.
func (t *Tank) readLine(i int, line string) api.Errno {
	if i == 0 {
		room, ok := numbersOf(line, tankWord, 1)
		if !ok {
			return api.ErrSyntax
		}
		t.Room = room[0]
		return api.OK
	}
	layer, ok := numbersOf(line, layerWord, 2)
	if !ok {
		return api.ErrSyntax
	}
	t.Layers = append(t.Layers, Layer{Amount: layer[0], Heat: layer[1]})
	return api.OK
}

// numbersOf returns the integers of a line, or false if it does not have its form.
func numbersOf(line, first string, count int) ([]int, bool) {
	return common.NumbersOf(line, first, count, func(word string) (int, bool) {
		return common.Natural(word, maxDigits)
	})
}
