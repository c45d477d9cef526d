package cloud

import (
	"spillage/api"
	"spillage/common"
)

// kind is the first word of a drift's text.
const kind = "drift"

// numbers returns the integers of a drift, in the order of its text.
func numbers() []common.Number[Drift] {
	return []common.Number[Drift]{
		{Of: func(d *Drift) *int { return &d.Ticks }},
		{Of: func(d *Drift) *int { return &d.X.Low }},
		{Of: func(d *Drift) *int { return &d.X.High }},
		{Of: func(d *Drift) *int { return &d.Y.Low }},
		{Of: func(d *Drift) *int { return &d.Y.High }},
	}
}

// Print returns the text of a drift.
func Print(d Drift) (string, api.Errno) {
	if e := CheckDrift(d); e != api.OK {
		return "", e
	}
	return common.LineOf(kind, d, numbers()), api.OK
}

// Parse returns the drift of a text.
func Parse(s string) (Drift, api.Errno) {
	if len(s) > api.MaxText {
		return Drift{}, api.ErrLong
	}
	d, ok := common.ReadLine(s, kind, numbers())
	if e := common.First(common.When(!ok, api.ErrSyntax), CheckDrift(d)); e != api.OK {
		return Drift{}, e
	}
	return d, api.OK
}
