package grid

import (
	"strings"

	"spillage/api"
	"spillage/common"
)

// The first words of lines.
const (
	plantWord   = "plant"
	quarterWord = "quarter"
)

// plantNumbers returns the integers of a plant, in the order of its text.
func plantNumbers() []common.Number[Plant] {
	return []common.Number[Plant]{
		{Of: func(p *Plant) *int { return &p.Storage }},
		{Of: func(p *Plant) *int { return &p.Level }},
		{Of: func(p *Plant) *int { return &p.Most }},
	}
}

// quarterNumbers returns the integers of a quarter hour, in the order of its text.
func quarterNumbers() []common.Number[Quarter] {
	return []common.Number[Quarter]{
		{Of: func(q *Quarter) *int { return &q.Price }},
		{Of: func(q *Quarter) *int { return &q.Heat }},
	}
}

// Print returns the text of a plant and its quarter hours.
func Print(p Plant, l []Quarter) (string, api.Errno) {
	if e := CheckOffers(p, l); e != api.OK {
		return "", e
	}
	quarters := common.Mapped(l, func(q Quarter) string {
		return common.LineOf(quarterWord, q, quarterNumbers())
	})
	return common.LineOf(plantWord, p, plantNumbers()) + strings.Join(quarters, ""), api.OK
}

// offers are a plant and its quarter hours.
type offers struct {
	plant    Plant
	quarters []Quarter
}

// readLine lets the offers get what the line with an index tells.
func (x *offers) readLine(i int, line string) api.Errno {
	if i == 0 {
		p, ok := common.ReadLine(line, plantWord, plantNumbers())
		x.plant = p
		return common.When(!ok, api.ErrSyntax)
	}
	q, ok := common.ReadLine(line, quarterWord, quarterNumbers())
	x.quarters = append(x.quarters, q)
	return common.When(!ok, api.ErrSyntax)
}

// Parse returns the plant and the quarter hours of a text, and the index of the first line that is wrong.
func Parse(s string) (Plant, []Quarter, int, api.Errno) {
	var x offers
	index, e := common.ReadLines(s, api.MaxText, x.readLine)
	e = common.First(e, common.When(index == 0, api.ErrSyntax), CheckOffers(x.plant, x.quarters))
	if e != api.OK {
		return Plant{}, nil, index, e
	}
	return x.plant, x.quarters, 0, api.OK
}
