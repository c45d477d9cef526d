package field

import (
	"slices"

	"spillage/api"
	"spillage/common"
)

// ray is the places from + t along for all t above 0, and, if it ends, below 1;
// all of them are told k times.
type ray struct {
	from, along common.Parts
	ends        bool
}

// meets reports whether a ray, told k times, meets the mirror: by Cramer's rule
// it is at the place k centre + a U + b V for its t, where t, a and b are the
// determinants below, divided by that of U, V and the vector of the ray.
func (p plate) meets(k int, r ray) bool {
	u, v := common.PartsOf(p.U), common.PartsOf(p.V)
	difference := r.from.Plus(common.PartsOf(p.Centre).Times(-k))
	a := difference.Cross(v).Dot(r.along)
	b := u.Cross(difference).Dot(r.along)
	t := -p.normal.Dot(difference)
	whole := p.normal.Dot(r.along)
	if whole < 0 {
		whole, t = -whole, -t
	}
	isOnRay := t > 0 && (!r.ends || t < whole)
	return whole > 0 && isOnRay && max(a, -a, b, -b) <= k*whole
}

// Meets reports whether a ray meets a mirror.
func Meets(m Mirror, k int, from, along api.Vector, ends bool) (bool, api.Errno) {
	e := common.First(
		CheckMirror(m), checkCount(k),
		common.CheckVector(from, MaxFar), common.CheckDirection(along, MaxFar),
	)
	if e != api.OK {
		return false, e
	}
	r := ray{from: common.PartsOf(from), along: common.PartsOf(along), ends: ends}
	return plateOf(m).meets(k, r), api.OK
}

// Dark reports for each facet of a mirror whether it is dark.
func Dark(l []Mirror, mirror int, sun api.Vector, k int) ([]bool, api.Errno) {
	e := common.First(
		CheckMirrors(l), checkIndex(l, mirror),
		common.CheckDirection(sun, MaxAlong), checkCount(k),
	)
	if e != api.OK {
		return nil, e
	}
	return dark(l, mirror, sun, k), api.OK
}

// Blocked reports for each facet of a mirror whether it is blocked.
func Blocked(l []Mirror, mirror int, target api.Vector, k int) ([]bool, api.Errno) {
	e := common.First(
		CheckMirrors(l), checkIndex(l, mirror),
		common.CheckVector(target, MaxPlace), checkCount(k),
	)
	if e != api.OK {
		return nil, e
	}
	return blocked(l, mirror, target, k), api.OK
}

func checkIndex(l []Mirror, mirror int) api.Errno {
	return common.When(mirror < 0 || mirror >= len(l), api.ErrUnknown)
}

func dark(l []Mirror, mirror int, sun api.Vector, k int) []bool {
	return cut(l, mirror, k, func(centre common.Parts) ray {
		return ray{from: centre, along: common.PartsOf(sun)}
	})
}

func blocked(l []Mirror, mirror int, target api.Vector, k int) []bool {
	end := common.PartsOf(target).Times(k)
	return cut(l, mirror, k, func(centre common.Parts) ray {
		return ray{from: centre, along: end.Plus(centre.Times(-1)), ends: true}
	})
}

// cut reports for each facet of a mirror whether the ray from its centre does not
// leave the mirror's front, or meets another mirror.
func cut(l []Mirror, mirror, k int, rayFrom func(centre common.Parts) ray) []bool {
	own := plateOf(l[mirror])
	others := common.Mapped(slices.Concat(l[:mirror], l[mirror+1:]), plateOf)
	cuts := make([]bool, k*k)
	for i, centre := range own.facets(k) {
		r := rayFrom(centre)
		meets := func(p plate) bool { return p.meets(k, r) }
		cuts[i] = own.normal.Dot(r.along) <= 0 || slices.ContainsFunc(others, meets)
	}
	return cuts
}
