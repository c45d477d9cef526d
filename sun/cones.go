package sun

import (
	"spillage/api"
	"spillage/common"
	"spillage/light"
)

// CheckCone returns the first error of a cone, or OK.
func CheckCone(c Cone) api.Errno {
	return common.First(
		CheckRay(c.Axis),
		common.CheckRange(c.Den, 1, MaxShare),
		common.CheckRange(c.Num, 0, c.Den),
	)
}

// Inside reports whether a ray is inside of a cone.
func Inside(c Cone, v api.Vector) (bool, api.Errno) {
	if e := common.First(CheckCone(c), CheckRay(v)); e != api.OK {
		return false, e
	}
	return contains(c, common.PartsOf(v)), api.OK
}

func contains(c Cone, p common.Parts) bool {
	axis := common.PartsOf(c.Axis)
	dot := axis.Dot(p)
	return dot > 0 && dot*dot*c.Den >= c.Num*axis.Dot(axis)*p.Dot(p)
}

// Meets reports whether the way between two turns meets a cone.
func Meets(c Cone, a, b api.Vector) (bool, api.Errno) {
	e := common.First(
		CheckCone(c), CheckRay(a), CheckRay(b),
		common.CheckVector(c.Axis, MaxTurn), common.CheckVector(a, MaxTurn), common.CheckVector(b, MaxTurn),
	)
	if e != api.OK {
		return false, e
	}
	p, q := common.PartsOf(a), common.PartsOf(b)
	if isOpposite(p, q) {
		return false, api.ErrForm
	}
	return contains(c, p) || contains(c, q) || passes(c, p, q), api.OK
}

// passes reports whether the projection of the axis on the plane of two turns
// lies between them, and is inside of the cone. The projection is the sum of x p
// and y q, divided by the determinant; its squared cosine is its dot product
// with the axis, divided by the squared length of the axis. (Of two turns of the
// same direction x and y are 0.)
func passes(c Cone, p, q common.Parts) bool {
	axis := common.PartsOf(c.Axis)
	pp, pq, qq := p.Dot(p), p.Dot(q), q.Dot(q)
	x := axis.Dot(p)*qq - axis.Dot(q)*pq
	y := axis.Dot(q)*pp - axis.Dot(p)*pq
	if x <= 0 || y <= 0 {
		return false
	}
	determinant := pp*qq - pq*pq
	dot := x*axis.Dot(p) + y*axis.Dot(q)
	return dot*c.Den >= c.Num*determinant*axis.Dot(axis)
}

// Frame returns the frame of a ray.
func Frame(n api.Vector) ([2]api.Vector, api.Errno) {
	if e := CheckRay(n); e != api.OK {
		return [2]api.Vector{}, e
	}
	p, first := common.PartsOf(n), axes[common.East]
	if n != (api.Vector{Z: n.Z}) {
		first = axes[common.Up].Cross(p).Reduced()
	}
	second := p.Cross(first).Reduced()
	return [2]api.Vector{first.Vector(), second.Vector()}, api.OK
}

// Hit returns the number at which a ray meets a plane.
func Hit(from, d, place, normal api.Vector) (api.Ratio, api.Errno) {
	e := common.First(light.CheckVector(from), CheckRay(d), light.CheckVector(place), CheckRay(normal))
	if e != api.OK {
		return api.Ratio{}, e
	}
	n := common.PartsOf(normal)
	speed := common.PartsOf(d).Dot(n)
	if speed == 0 {
		return api.Ratio{}, api.ErrNone
	}
	difference := common.PartsOf(place).Plus(common.PartsOf(from).Times(-1))
	return common.Quotient(difference.Dot(n), speed), api.OK
}
