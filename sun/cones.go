package sun

import (
	"spillage/api"
	"spillage/common"
	"spillage/light"
)

// CheckCone returns the first error of a cone, or OK.
func CheckCone(c Cone) api.Errno {
	return common.First(
		CheckRay(c.Axis),
		common.CheckRange(c.Den, 1, MaxShare),
		common.CheckRange(c.Num, 0, c.Den),
	)
}

// Inside reports whether a ray is inside of a cone.
func Inside(c Cone, v api.Vector) (bool, api.Errno) {
	if e := common.First(CheckCone(c), CheckRay(v)); e != api.OK {
		return false, e
	}
	return contains(c, partsOf(v)), api.OK
}

func contains(c Cone, p parts) bool {
	axis := partsOf(c.Axis)
	dot := axis.dot(p)
	return dot > 0 && dot*dot*c.Den >= c.Num*axis.dot(axis)*p.dot(p)
}

// Meets reports whether the way between two turns meets a cone.
func Meets(c Cone, a, b api.Vector) (bool, api.Errno) {
	e := common.First(
		CheckCone(c), CheckRay(a), CheckRay(b),
		checkTurn(c.Axis), checkTurn(a), checkTurn(b),
	)
	if e != api.OK {
		return false, e
	}
	p, q := partsOf(a), partsOf(b)
	if p.isOpposite(q) {
		return false, api.ErrForm
	}
	return contains(c, p) || contains(c, q) || passes(c, p, q), api.OK
}

func checkTurn(v api.Vector) api.Errno {
	return common.When(!partsOf(v).isWithin(MaxTurn), api.ErrRange)
}

// passes reports whether the projection of the axis on the plane of two turns
// lies between them, and is inside of the cone. The projection is the sum of x p
// and y q, divided by the determinant; its squared cosine is its dot product
// with the axis, divided by the squared length of the axis. (Of two turns of the
// same direction x and y are 0.)
func passes(c Cone, p, q parts) bool {
	axis := partsOf(c.Axis)
	pp, pq, qq := p.dot(p), p.dot(q), q.dot(q)
	x := axis.dot(p)*qq - axis.dot(q)*pq
	y := axis.dot(q)*pp - axis.dot(p)*pq
	if x <= 0 || y <= 0 {
		return false
	}
	determinant := pp*qq - pq*pq
	dot := x*axis.dot(p) + y*axis.dot(q)
	return dot*c.Den >= c.Num*determinant*axis.dot(axis)
}

// Frame returns the frame of a ray.
func Frame(n api.Vector) ([2]api.Vector, api.Errno) {
	if e := CheckRay(n); e != api.OK {
		return [2]api.Vector{}, e
	}
	p, first := partsOf(n), axes[east]
	if n != (api.Vector{Z: n.Z}) {
		first = axes[up].cross(p).reduced()
	}
	second := p.cross(first).reduced()
	return [2]api.Vector{first.vector(), second.vector()}, api.OK
}

// Hit returns the number at which a ray meets a plane.
func Hit(from, d, place, normal api.Vector) (api.Ratio, api.Errno) {
	e := common.First(light.CheckVector(from), CheckRay(d), light.CheckVector(place), CheckRay(normal))
	if e != api.OK {
		return api.Ratio{}, e
	}
	n := partsOf(normal)
	speed := partsOf(d).dot(n)
	if speed == 0 {
		return api.Ratio{}, api.ErrNone
	}
	difference := partsOf(place).plus(partsOf(from).times(-1))
	return quotient(difference.dot(n), speed), api.OK
}
