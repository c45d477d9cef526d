package cloud

import (
	"spillage/api"
	"spillage/common"
)

// kind is the first word of a drift's text.
const kind = "drift"

// number is an integer of a drift.
type number struct {
	of func(d *Drift) *int
}

// numbers returns the integers of a drift, in the order of its text.
func numbers() []number {
	return []number{
		{of: func(d *Drift) *int { return &d.Ticks }},
		{of: func(d *Drift) *int { return &d.X.Low }},
		{of: func(d *Drift) *int { return &d.X.High }},
		{of: func(d *Drift) *int { return &d.Y.Low }},
		{of: func(d *Drift) *int { return &d.Y.High }},
	}
}

// Print returns the text of a drift.
func Print(d Drift) (string, api.Errno) {
	if e := CheckDrift(d); e != api.OK {
		return "", e
	}
	return common.Line(kind, common.Mapped(numbers(), func(x number) int { return *x.of(&d) })...), api.OK
}

// Parse returns the drift of a text.
func Parse(s string) (Drift, api.Errno) {
	if len(s) > api.MaxText {
		return Drift{}, api.ErrLong
	}
	d, ok := readDrift(s)
	if e := common.First(common.When(!ok, api.ErrSyntax), CheckDrift(d)); e != api.OK {
		return Drift{}, e
	}
	return d, api.OK
}

// readDrift returns the drift of a line, or false if it does not have its form.
func readDrift(line string) (Drift, bool) {
	l, ok := common.NumbersOf(line, kind, len(numbers()), common.Integer)
	if !ok {
		return Drift{}, false
	}
	var d Drift
	for i, x := range numbers() {
		*x.of(&d) = l[i]
	}
	return d, true
}
