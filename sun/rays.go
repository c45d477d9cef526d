package sun

import (
	"sort"

	"spillage/api"
	"spillage/common"
	"spillage/light"
)

// axes are the directions of the parts.
var axes = [3]common.Parts{{1, 0, 0}, {0, 1, 0}, {0, 0, 1}}

// CheckRay returns the first error of a ray, or OK.
func CheckRay(v api.Vector) api.Errno {
	return common.First(light.CheckDirection(v), common.CheckVector(v, MaxRay))
}

// Reduced returns a reduced vector.
func Reduced(v api.Vector) (api.Vector, api.Errno) {
	if e := light.CheckDirection(v); e != api.OK {
		return api.Vector{}, e
	}
	return common.PartsOf(v).Reduced().Vector(), api.OK
}

// Same reports whether two vectors have the same direction.
func Same(a, b api.Vector) (bool, api.Errno) {
	if e := common.First(light.CheckDirection(a), light.CheckDirection(b)); e != api.OK {
		return false, e
	}
	return common.PartsOf(a).Reduced() == common.PartsOf(b).Reduced(), api.OK
}

// Length returns the length of a whole ray.
func Length(v api.Vector) (int, api.Errno) {
	if e := CheckRay(v); e != api.OK {
		return 0, e
	}
	length, whole := lengthOf(common.PartsOf(v))
	if !whole {
		return 0, api.ErrForm
	}
	return length, api.OK
}

// lengthOf returns the length of a ray, or false if it is not whole. No ray is
// as long as the greatest part taken twice.
func lengthOf(p common.Parts) (int, bool) {
	square := p.Dot(p)
	length := sort.Search(2*MaxRay, func(n int) bool { return n*n >= square })
	return length, length*length == square
}

// Whole returns the whole vector of four integers.
func Whole(l [4]int) (api.Vector, api.Errno) {
	checks := common.Mapped(l[:], func(n int) api.Errno { return common.CheckRange(n, -MaxRoot, MaxRoot) })
	if e := common.First(checks...); e != api.OK {
		return api.Vector{}, e
	}
	if l == ([4]int{}) {
		return api.Vector{}, api.ErrZero
	}
	m, n, p, q := l[0], l[1], l[2], l[3]
	return api.Vector{X: m*m + n*n - p*p - q*q, Y: 2 * (m*q + n*p), Z: 2 * (n*q - m*p)}, api.OK
}

// Normal returns the normal of two whole rays.
func Normal(a, b api.Vector) (api.Vector, api.Errno) {
	if e := common.First(CheckRay(a), CheckRay(b)); e != api.OK {
		return api.Vector{}, e
	}
	p, q := common.PartsOf(a), common.PartsOf(b)
	long, isWhole := lengthOf(p)
	wide, isWholeToo := lengthOf(q)
	if !isWhole || !isWholeToo {
		return api.Vector{}, api.ErrForm
	}
	if isOpposite(p, q) {
		return api.Vector{}, api.ErrZero
	}
	return rayOf(p.Times(wide).Plus(q.Times(long)))
}

// isOpposite reports whether two directions are opposite.
func isOpposite(p, q common.Parts) bool {
	return p.Reduced() == q.Reduced().Times(-1)
}

// rayOf returns the ray with some parts, reduced, or ErrLarge if it is none.
func rayOf(p common.Parts) (api.Vector, api.Errno) {
	v := p.Reduced().Vector()
	if common.CheckVector(v, MaxRay) != api.OK {
		return api.Vector{}, api.ErrLarge
	}
	return v, api.OK
}

// Reflected returns a ray, reflected at a normal.
func Reflected(d, n api.Vector) (api.Vector, api.Errno) {
	if e := common.First(CheckRay(d), CheckRay(n)); e != api.OK {
		return api.Vector{}, e
	}
	p, q := common.PartsOf(d), common.PartsOf(n)
	return rayOf(q.Times(2 * p.Dot(q)).Plus(p.Times(-q.Dot(q))))
}

// Cosine returns the sign and the square of the cosine of two rays.
func Cosine(a, b api.Vector) (int, api.Ratio, api.Errno) {
	if e := common.First(CheckRay(a), CheckRay(b)); e != api.OK {
		return 0, api.Ratio{}, e
	}
	p, q := common.PartsOf(a), common.PartsOf(b)
	dot := p.Dot(q)
	return common.Sign(dot), common.Quotient(dot*dot, p.Dot(p)*q.Dot(q)), api.OK
}
