package sun

import (
	"sort"

	"spillage/api"
	"spillage/common"
	"spillage/light"
)

// CheckRay returns the first error of a ray, or OK.
func CheckRay(v api.Vector) api.Errno {
	return common.First(
		light.CheckDirection(v),
		common.When(!partsOf(v).isWithin(MaxRay), api.ErrRange),
	)
}

// Reduced returns a reduced vector.
func Reduced(v api.Vector) (api.Vector, api.Errno) {
	if e := light.CheckDirection(v); e != api.OK {
		return api.Vector{}, e
	}
	return partsOf(v).reduced().vector(), api.OK
}

// Same reports whether two vectors have the same direction.
func Same(a, b api.Vector) (bool, api.Errno) {
	if e := common.First(light.CheckDirection(a), light.CheckDirection(b)); e != api.OK {
		return false, e
	}
	return partsOf(a).reduced() == partsOf(b).reduced(), api.OK
}

// Length returns the length of a whole ray.
func Length(v api.Vector) (int, api.Errno) {
	if e := CheckRay(v); e != api.OK {
		return 0, e
	}
	length, whole := lengthOf(partsOf(v))
	if !whole {
		return 0, api.ErrForm
	}
	return length, api.OK
}

// lengthOf returns the length of a ray, or false if it is not whole. No ray is
// as long as the greatest part taken twice.
func lengthOf(p parts) (int, bool) {
	square := p.dot(p)
	length := sort.Search(2*MaxRay, func(n int) bool { return n*n >= square })
	return length, length*length == square
}

// Whole returns the whole vector of four integers.
func Whole(l [4]int) (api.Vector, api.Errno) {
	checks := common.Mapped(l[:], func(n int) api.Errno { return common.CheckRange(n, -MaxRoot, MaxRoot) })
	if e := common.First(checks...); e != api.OK {
		return api.Vector{}, e
	}
	if l == ([4]int{}) {
		return api.Vector{}, api.ErrZero
	}
	m, n, p, q := l[0], l[1], l[2], l[3]
	return api.Vector{X: m*m + n*n - p*p - q*q, Y: 2 * (m*q + n*p), Z: 2 * (n*q - m*p)}, api.OK
}

// Normal returns the normal of two whole rays.
func Normal(a, b api.Vector) (api.Vector, api.Errno) {
	if e := common.First(CheckRay(a), CheckRay(b)); e != api.OK {
		return api.Vector{}, e
	}
	p, q := partsOf(a), partsOf(b)
	long, isWhole := lengthOf(p)
	wide, isWholeToo := lengthOf(q)
	if !isWhole || !isWholeToo {
		return api.Vector{}, api.ErrForm
	}
	if p.isOpposite(q) {
		return api.Vector{}, api.ErrZero
	}
	return rayOf(p.times(wide).plus(q.times(long)))
}

// rayOf returns the ray with some parts, reduced, or ErrLarge if it is none.
func rayOf(p parts) (api.Vector, api.Errno) {
	p = p.reduced()
	if !p.isWithin(MaxRay) {
		return api.Vector{}, api.ErrLarge
	}
	return p.vector(), api.OK
}

// Reflected returns a ray, reflected at a normal.
func Reflected(d, n api.Vector) (api.Vector, api.Errno) {
	if e := common.First(CheckRay(d), CheckRay(n)); e != api.OK {
		return api.Vector{}, e
	}
	p, q := partsOf(d), partsOf(n)
	return rayOf(q.times(2 * p.dot(q)).plus(p.times(-q.dot(q))))
}

// Cosine returns the sign and the square of the cosine of two rays.
func Cosine(a, b api.Vector) (int, api.Ratio, api.Errno) {
	if e := common.First(CheckRay(a), CheckRay(b)); e != api.OK {
		return 0, api.Ratio{}, e
	}
	p, q := partsOf(a), partsOf(b)
	dot := p.dot(q)
	return sign(dot), quotient(dot*dot, p.dot(p)*q.dot(q)), api.OK
}

func sign(n int) int {
	return min(max(n, -1), 1)
}

// quotient returns a / b in lowest terms, for b other than 0.
func quotient(a, b int) api.Ratio {
	divisor := common.Divisor(a, b) * sign(b)
	return api.Ratio{Num: a / divisor, Den: b / divisor}
}
