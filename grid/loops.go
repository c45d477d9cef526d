package grid

import (
	"slices"

	"spillage/api"
	"spillage/common"
	"spillage/light"
)

// together is how many samples of a vibration are transformed at once.
const together = 4

func checkVibration(l []float32) api.Errno {
	return common.First(
		common.CheckList(l, api.MaxSamples, light.CheckSample),
		common.When(len(l)%together != 0, api.ErrShape),
	)
}

// Energies returns the energies of a vibration.
func Energies(l []float32) ([3]int, api.Errno) {
	if e := checkVibration(l); e != api.OK {
		return [3]int{}, e
	}
	var energies [3]int
	for samples := range slices.Chunk(l, together) {
		four := [together]float32(samples)
		// What stands still has no energy.
		if four == ([together]float32{}) {
			continue
		}
		panel, _ := light.Four(four)
		for k := range energies {
			energies[k] += square(integersOf(complex128(panel[k])))
		}
	}
	return energies, api.OK
}

func checkName(name string) api.Errno {
	return common.When(!light.IsName(name), api.ErrName)
}

// Mode returns the name of the strongest mode of a vibration.
func Mode(l []float32, names [3]string) (string, api.Errno) {
	energies, e := Energies(l)
	e = common.First(
		e,
		common.CheckList(names[:], len(names), checkName),
		common.When(len(l) == 0, api.ErrEmpty),
	)
	if e != api.OK {
		return "", e
	}
	return names[slices.Index(energies[:], slices.Max(energies[:]))], api.OK
}

func checkResponse(x complex128) api.Errno {
	return common.CheckNumber(x, MaxLevel/common.Fineness)
}

func checkResponses(l []complex128) api.Errno {
	return common.First(
		common.When(len(l) == 0, api.ErrEmpty),
		common.CheckList(l, MaxRespond, checkResponse),
	)
}

// fromCritical returns where a response lies, as seen from -1.
func fromCritical(x complex128) api.Gauss {
	return integersOf(x + 1)
}

// Margin returns the least squared distance of responses from -1, and which one has it.
func Margin(l []complex128) (int, int, api.Errno) {
	if e := checkResponses(l); e != api.OK {
		return 0, 0, e
	}
	squares := common.Mapped(l, func(x complex128) int { return square(fromCritical(x)) })
	least := slices.Min(squares)
	return least, slices.Index(squares, least), api.OK
}

// line leads straight from a point to another one, or to the same one.
type line struct {
	from, to api.Point
}

// linesOf returns the lines from each response to the next one, and from the last
// one to the first one, as seen from -1.
func linesOf(l []complex128) []line {
	points := common.Mapped(l, func(x complex128) api.Point {
		z := fromCritical(x)
		return api.Point{X: z.Re, Y: z.Im}
	})
	lines := make([]line, 0, len(points))
	for i, p := range points {
		lines = append(lines, line{from: p, to: points[(i+1)%len(points)]})
	}
	return lines
}

// side is above 0 if the origin lies to the left of the line, 0 if it is straight
// ahead or behind, and below 0 otherwise.
func (x line) side() int {
	return common.Left(x.from, x.to, api.Point{})
}

// meets reports whether the origin lies on the line.
func (x line) meets() bool {
	isBetween := x.from.X*x.to.X <= 0 && x.from.Y*x.to.Y <= 0
	return isBetween && x.side() == 0
}

// crosses returns 1 if the line crosses the ray from the origin to the right
// upwards, -1 if it does downwards, and 0 otherwise.
func (x line) crosses() int {
	isBelow, endsBelow := x.from.Y <= 0, x.to.Y <= 0
	switch {
	case isBelow && !endsBelow && x.side() > 0:
		return 1
	case !isBelow && endsBelow && x.side() < 0:
		return -1
	}
	return 0
}

// Winding returns how often responses wind around -1.
func Winding(l []complex128) (int, api.Errno) {
	if e := checkResponses(l); e != api.OK {
		return 0, e
	}
	lines := linesOf(l)
	if slices.ContainsFunc(lines, line.meets) {
		return 0, api.ErrConflict
	}
	winding := 0
	for _, x := range lines {
		winding += x.crosses()
	}
	return winding, api.OK
}
