package drive

import (
	"strings"

	"spillage/api"
	"spillage/common"
)

// Print returns the text of a model.
func Print(m []Band) (string, api.Errno) {
	if e := CheckModel(m); e != api.OK {
		return "", e
	}
	lines := common.Mapped(m, func(b Band) string {
		return common.Line("band", b.Gain, b.Offset.Low, b.Offset.High)
	})
	return strings.Join(lines, ""), api.OK
}

// Parse returns the model of a text, and the index of the first line that is wrong.
func Parse(s string) ([]Band, int, api.Errno) {
	return common.Parsed(s, readBand, CheckModel)
}

// readBand returns the band of a line, or false if it does not have its form.
func readBand(line string) (Band, bool) {
	l, ok := common.NumbersOf(line, "band", 3, common.Integer)
	if !ok {
		return Band{}, false
	}
	return Band{Gain: l[0], Offset: api.Interval{Low: l[1], High: l[2]}}, true
}
