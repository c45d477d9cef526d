package sun

import (
	"slices"
	"strings"

	"spillage/api"
	"spillage/common"
)

// lineForm is how the words behind the name of a line change a sky, or that
// they do not have their form.
type lineForm struct {
	read func(s Sky, take func() (string, bool)) (Sky, bool)
}

func lineForms() map[string]lineForm {
	return map[string]lineForm{
		"sky": {read: readName},
		"sun": {read: readSun},
	}
}

// Print returns the text of a sky.
func Print(s Sky) (string, api.Errno) {
	if e := CheckSky(s); e != api.OK {
		return "", e
	}
	lines := common.Mapped(s.Suns, func(x Sun) string {
		return common.Line("sun", x.Tick, x.Direction.X, x.Direction.Y, x.Direction.Z)
	})
	return "sky " + s.Name + "\n" + strings.Join(lines, ""), api.OK
}

// Parse returns the sky of a text, and the index of the first line that is wrong.
func Parse(s string) (Sky, int, api.Errno) {
	var sky Sky
	forms := lineForms()
	kind := "sky"
	index, e := common.ReadLines(s, api.MaxText, func(_ int, line string) api.Errno {
		changed, ok := readLine(sky, line, kind, forms[kind])
		sky, kind = changed, "sun"
		return common.When(!ok, api.ErrSyntax)
	})
	e = common.First(e, common.When(index == 0, api.ErrSyntax), CheckSky(sky))
	if e != api.OK {
		return Sky{}, index, e
	}
	return sky, 0, api.OK
}

// readLine returns the sky that a line of a kind changes, or false if it does
// not have its form.
func readLine(s Sky, line, kind string, form lineForm) (Sky, bool) {
	left, ok := common.WordsOf(line, kind)
	if !ok {
		return Sky{}, false
	}
	return form.read(s, left.Next)
}

func readName(s Sky, take func() (string, bool)) (Sky, bool) {
	name, _ := take()
	if _, more := take(); more || name == "" {
		return Sky{}, false
	}
	s.Name = name
	return s, true
}

func readSun(s Sky, take func() (string, bool)) (Sky, bool) {
	l, ok := common.Integers(take)
	if !ok || len(l) != 4 {
		return Sky{}, false
	}
	return extended(s, Sun{Tick: l[0], Direction: api.Vector{X: l[1], Y: l[2], Z: l[3]}}), true
}

// extended returns a copy of a sky with one more sun.
func extended(s Sky, x Sun) Sky {
	s.Suns = append(slices.Clone(s.Suns), x)
	return s
}
