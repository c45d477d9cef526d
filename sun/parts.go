package sun

import (
	"spillage/api"
	"spillage/common"
)

// The indices of the parts, and of the axes along which they are told.
const (
	east = iota
	north
	up
)

var axes = [3]parts{{1, 0, 0}, {0, 1, 0}, {0, 0, 1}}

// parts are the parts of a vector, which may be beyond its limits on the way.
type parts [3]int

func partsOf(v api.Vector) parts {
	return parts{v.X, v.Y, v.Z}
}

func (p parts) vector() api.Vector {
	return api.Vector{X: p[east], Y: p[north], Z: p[up]}
}

func (p parts) dot(q parts) int {
	sum := 0
	for i := range 3 {
		sum += p[i] * q[i]
	}
	return sum
}

func (p parts) cross(q parts) parts {
	var out parts
	for i := range 3 {
		j, k := (i+1)%3, (i+2)%3
		out[i] = p[j]*q[k] - p[k]*q[j]
	}
	return out
}

func (p parts) times(n int) parts {
	for i := range 3 {
		p[i] *= n
	}
	return p
}

func (p parts) plus(q parts) parts {
	for i := range 3 {
		p[i] += q[i]
	}
	return p
}

// reduced returns the parts divided by their divisor; not all of them are 0.
func (p parts) reduced() parts {
	divisor := common.Divisor(common.Divisor(p[east], p[north]), p[up])
	for i := range 3 {
		p[i] /= divisor
	}
	return p
}

// flat returns the sum of the absolute values of X and Y.
func (p parts) flat() int {
	return max(p[east], -p[east]) + max(p[north], -p[north])
}

// isWithin reports whether no part is beyond a limit.
func (p parts) isWithin(limit int) bool {
	for _, n := range p {
		if n < -limit || n > limit {
			return false
		}
	}
	return true
}

// isOpposite reports whether two directions are opposite.
func (p parts) isOpposite(q parts) bool {
	return p.reduced() == q.reduced().times(-1)
}
