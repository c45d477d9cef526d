package field

import (
	"iter"

	"spillage/api"
	"spillage/common"
	"spillage/light"
)

// cornerSigns are the shares of U and V at the corners of a mirror.
var cornerSigns = [4][2]int{{-1, -1}, {1, -1}, {1, 1}, {-1, 1}}

// part is a vector of a mirror, and the limit of its parts.
type part struct {
	of    func(m *Mirror) *api.Vector
	limit int
}

// mirrorParts returns the vectors of a mirror, in the order of its text.
func mirrorParts() [3]part {
	return [3]part{
		{of: func(m *Mirror) *api.Vector { return &m.Centre }, limit: MaxPlace},
		{of: func(m *Mirror) *api.Vector { return &m.U }, limit: MaxHalf},
		{of: func(m *Mirror) *api.Vector { return &m.V }, limit: MaxHalf},
	}
}

// plate is a mirror with its normal.
type plate struct {
	Mirror
	normal common.Parts
}

func plateOf(m Mirror) plate {
	return plate{Mirror: m, normal: common.PartsOf(m.U).Cross(common.PartsOf(m.V))}
}

// place returns k times the centre, and a times U and b times V from there.
func (p plate) place(k, a, b int) common.Parts {
	centre, u, v := common.PartsOf(p.Centre), common.PartsOf(p.U), common.PartsOf(p.V)
	return centre.Times(k).Plus(u.Times(a)).Plus(v.Times(b))
}

// corners returns the corners of the mirror.
func (p plate) corners() [4]api.Vector {
	var corners [4]api.Vector
	for i, sign := range cornerSigns {
		corners[i] = p.place(1, sign[0], sign[1]).Vector()
	}
	return corners
}

// facets visits the centres, times k, of the facets of the mirror, each one with
// its index.
func (p plate) facets(k int) iter.Seq2[int, common.Parts] {
	return func(yield func(int, common.Parts) bool) {
		for row := range k {
			for column := range k {
				if !yield(row*k+column, p.place(k, 2*column+1-k, 2*row+1-k)) {
					return
				}
			}
		}
	}
}

// CheckMirror returns the first error of a mirror, or OK.
func CheckMirror(m Mirror) api.Errno {
	e := common.When(!light.IsName(m.Name), api.ErrName)
	for _, x := range mirrorParts() {
		e = common.First(e, common.CheckVector(*x.of(&m), x.limit))
	}
	return common.First(e, common.When(plateOf(m).normal == common.Parts{}, api.ErrSingular))
}

// CheckMirrors returns the first error of mirrors, or OK.
func CheckMirrors(l []Mirror) api.Errno {
	return common.CheckDistinct(l, MaxMirrors, CheckMirror, func(m Mirror) string { return m.Name })
}

func checkCount(k int) api.Errno {
	return common.CheckRange(k, 1, MaxFacets)
}

// Corners returns the corners of a mirror.
func Corners(m Mirror) ([4]api.Vector, api.Errno) {
	if e := CheckMirror(m); e != api.OK {
		return [4]api.Vector{}, e
	}
	return plateOf(m).corners(), api.OK
}

// Normal returns the normal of a mirror.
func Normal(m Mirror) (api.Vector, api.Errno) {
	if e := CheckMirror(m); e != api.OK {
		return api.Vector{}, e
	}
	return plateOf(m).normal.Vector(), api.OK
}

// Cosine returns the sign and the square of the cosine of a direction and a mirror's normal.
func Cosine(m Mirror, d api.Vector) (int, api.Ratio, api.Errno) {
	if e := common.First(CheckMirror(m), common.CheckDirection(d, MaxAlong)); e != api.OK {
		return 0, api.Ratio{}, e
	}
	normal, along := plateOf(m).normal, common.PartsOf(d)
	dot := normal.Dot(along)
	return common.Sign(dot), common.Quotient(dot*dot, normal.Dot(normal)*along.Dot(along)), api.OK
}

// Shadow returns the shadow of a mirror on the ground.
func Shadow(m Mirror, sun api.Vector) ([]api.Point, api.Errno) {
	e := common.First(
		CheckMirror(m), common.CheckDirection(sun, MaxAlong),
		common.When(sun.Z < 1, api.ErrRule),
	)
	if e != api.OK {
		return nil, e
	}
	corners := groundCorners(m, sun)
	turns := turnsOf(corners)
	if turns == ([4]int{}) {
		return nil, api.ErrSingular
	}
	if turns[0] < 0 {
		corners[1], corners[3] = corners[3], corners[1]
	}
	return corners[:], api.OK
}

// groundCorners returns where the rays through the corners of a mirror meet the
// ground, times the sun's Z.
func groundCorners(m Mirror, sun api.Vector) [4]api.Point {
	var ground [4]api.Point
	for i, x := range plateOf(m).corners() {
		ground[i] = api.Point{X: x.X*sun.Z - x.Z*sun.X, Y: x.Y*sun.Z - x.Z*sun.Y}
	}
	return ground
}

// turnsOf tells for each corner whether the way round turns to the left there
// (above 0), to the right (below 0), or does not turn.
func turnsOf(corners [4]api.Point) [4]int {
	var turns [4]int
	for i, x := range edges(corners[:]) {
		turns[i] = x.left(corners[(i+3)%4])
	}
	return turns
}

// Facets returns the centres of the facets of a mirror.
func Facets(m Mirror, k int) ([]api.Vector, api.Errno) {
	if e := common.First(CheckMirror(m), checkCount(k)); e != api.OK {
		return nil, e
	}
	var centres []api.Vector
	for _, centre := range plateOf(m).facets(k) {
		centres = append(centres, centre.Vector())
	}
	return centres, api.OK
}
