package common

import (
	"spillage/api"
)

// The indices of the parts.
const (
	East = iota
	North
	Up
)

// Parts are the parts of a vector, which may be beyond its limits on the way.
type Parts [3]int

// PartsOf returns the parts of a vector.
func PartsOf(v api.Vector) Parts {
	return Parts{v.X, v.Y, v.Z}
}

// Vector returns the vector with the parts.
func (p Parts) Vector() api.Vector {
	return api.Vector{X: p[East], Y: p[North], Z: p[Up]}
}

// Dot returns the scalar product.
func (p Parts) Dot(q Parts) int {
	sum := 0
	for i := range 3 {
		sum += p[i] * q[i]
	}
	return sum
}

// Cross returns the cross product.
func (p Parts) Cross(q Parts) Parts {
	var out Parts
	for i := range 3 {
		j, k := (i+1)%3, (i+2)%3
		out[i] = p[j]*q[k] - p[k]*q[j]
	}
	return out
}

// Times returns each part times n.
func (p Parts) Times(n int) Parts {
	for i := range 3 {
		p[i] *= n
	}
	return p
}

// Plus returns the sums of the parts.
func (p Parts) Plus(q Parts) Parts {
	for i := range 3 {
		p[i] += q[i]
	}
	return p
}

// Reduced returns the parts divided by their divisor; not all of them are 0.
func (p Parts) Reduced() Parts {
	divisor := Divisor(Divisor(p[East], p[North]), p[Up])
	for i := range 3 {
		p[i] /= divisor
	}
	return p
}

// CheckVector returns ErrRange for a vector with a part that is not from -limit
// to limit.
func CheckVector(v api.Vector, limit int) api.Errno {
	for _, n := range PartsOf(v) {
		if e := CheckRange(n, -limit, limit); e != api.OK {
			return e
		}
	}
	return api.OK
}

// CheckDirection returns the same, then ErrZero if all parts are 0.
func CheckDirection(v api.Vector, limit int) api.Errno {
	return First(CheckVector(v, limit), When(v == api.Vector{}, api.ErrZero))
}
