package light

import (
	"spillage/api"
	"spillage/common"
)

// The numbers of the generator that draws permutations, and the greatest integer
// of a sample.
const (
	drawFactor  = 950706376
	drawModulus = 2147483647
	maxInteger  = api.MaxValue * common.Fineness
)

// IsName reports whether a string is a name.
func IsName(s string) bool {
	if len(s) == 0 || len(s) > api.MaxName {
		return false
	}
	for i, r := range s {
		if !isLetter(r) && (i == 0 || !common.IsDigit(r) && r != '_') {
			return false
		}
	}
	return true
}

func isLetter(r rune) bool {
	return 'A' <= r && r <= 'Z' || 'a' <= r && r <= 'z'
}

// Draw returns the permutation of n elements by a key.
func Draw(key, n int) ([]int, api.Errno) {
	if e := common.First(common.CheckRange(key, 1, drawModulus-1), common.CheckRange(n, 0, api.MaxList)); e != api.OK {
		return nil, e
	}
	l := make([]int, n)
	for i := range n {
		l[i] = i
	}
	x := int64(key)
	for i := n - 1; i >= 1; i-- {
		x = drawFactor * x % drawModulus
		j := int(x % int64(i+1))
		l[i], l[j] = l[j], l[i]
	}
	return l, api.OK
}

// CheckRatio returns the first error of a ratio, or OK.
func CheckRatio(x api.Ratio) api.Errno {
	e := common.First(common.CheckRange(x.Num, -api.MaxNumber, api.MaxNumber), common.CheckRange(x.Den, 1, api.MaxNumber))
	if e != api.OK {
		return e
	}
	// The divisor of 0 and a denominator is the denominator, so that 0 is a
	// ratio only over 1.
	return common.When(common.Divisor(x.Num, x.Den) != 1, api.ErrForm)
}

// CheckSample returns the first error of a sample, or OK.
func CheckSample(x float32) api.Errno {
	if !common.IsFinite(x) {
		return api.ErrForm
	}
	if !common.IsMultiple(x, api.MaxValue) {
		return api.ErrRange
	}
	return api.OK
}

// CheckVector returns the first error of a vector, or OK.
func CheckVector(v api.Vector) api.Errno {
	return common.CheckVector(v, api.MaxReach)
}

// CheckDirection returns the first error of a direction, or OK.
func CheckDirection(v api.Vector) api.Errno {
	return common.CheckDirection(v, api.MaxReach)
}
