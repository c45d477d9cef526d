package field

import (
	"strings"

	"spillage/api"
	"spillage/common"
)

const kind = "mirror"

// Print returns the text of mirrors.
func Print(l []Mirror) (string, api.Errno) {
	if e := CheckMirrors(l); e != api.OK {
		return "", e
	}
	lines := common.Mapped(l, func(m Mirror) string {
		return common.Line(kind+" "+m.Name, numbersOf(m)...)
	})
	return strings.Join(lines, ""), api.OK
}

// numbersOf returns the numbers of a mirror, in the order of its text.
func numbersOf(m Mirror) []int {
	var numbers []int
	for _, x := range mirrorParts() {
		v := x.of(&m)
		numbers = append(numbers, v.X, v.Y, v.Z)
	}
	return numbers
}

// Parse returns the mirrors with a text, or the index of the first line that is wrong.
func Parse(s string) ([]Mirror, int, api.Errno) {
	return common.Parsed(s, readMirror, CheckMirrors)
}

// readMirror returns the mirror of a line, or false if it does not have its form.
func readMirror(line string) (Mirror, bool) {
	left, ok := common.WordsOf(line, kind)
	if !ok {
		return Mirror{}, false
	}
	take := left.Next
	name, _ := take()
	numbers, ok := common.Integers(take)
	if !ok || name == "" || len(numbers) != 9 {
		return Mirror{}, false
	}
	m := Mirror{Name: name}
	for i, x := range mirrorParts() {
		*x.of(&m) = api.Vector{X: numbers[3*i], Y: numbers[3*i+1], Z: numbers[3*i+2]}
	}
	return m, true
}
