// Package common has what several layers need beside the functions that their
// chapters list: checks, lists, quotients, intervals, spans, points, vectors, maps,
// and the lines of texts.
package common

import (
	"spillage/api"
)

// First returns the first of some errors that is one.
func First(errors ...api.Errno) api.Errno {
	for _, e := range errors {
		if e != api.OK {
			return e
		}
	}
	return api.OK
}

// When returns an error if something is wrong.
func When(wrong bool, e api.Errno) api.Errno {
	if wrong {
		return e
	}
	return api.OK
}

// CheckRange returns ErrRange for a number that is not from low to high.
func CheckRange(n, low, high int) api.Errno {
	return When(n < low || n > high, api.ErrRange)
}

// CheckLength returns ErrEmpty for no elements, and ErrMany for too many.
func CheckLength(n, most int) api.Errno {
	return First(When(n == 0, api.ErrEmpty), When(n > most, api.ErrMany))
}

// CheckList returns ErrMany for too many elements, then the error of the first one
// with one.
func CheckList[T any](l []T, most int, check func(T) api.Errno) api.Errno {
	if len(l) > most {
		return api.ErrMany
	}
	return First(Mapped(l, check)...)
}

// CheckInterval returns ErrRange for an interval with an end that is not from
// low to high, then ErrOrder if its ends are in the wrong order.
func CheckInterval(x api.Interval, low, high int) api.Errno {
	return First(
		CheckRange(x.Low, low, high),
		CheckRange(x.High, low, high),
		When(x.Low > x.High, api.ErrOrder),
	)
}

// CheckDistinct returns ErrMany for too many elements, then for the first one
// with an error that of the check, ErrTwice if one before it has its key, or that
// of the later checks.
func CheckDistinct[T any, K comparable](l []T, most int, check func(T) api.Errno, key func(T) K, later ...func(T) api.Errno) api.Errno {
	if len(l) > most {
		return api.ErrMany
	}
	keys := map[K]bool{}
	for _, x := range l {
		e := First(check(x), When(keys[key(x)], api.ErrTwice))
		for _, check := range later {
			e = First(e, check(x))
		}
		if e != api.OK {
			return e
		}
		keys[key(x)] = true
	}
	return api.OK
}

// CheckAscending returns the error of the first element with one: that of the
// check, or ErrOrder if the element before it is not below it.
func CheckAscending[T any](l []T, check func(T) api.Errno, isBelow func(T, T) bool) api.Errno {
	for i, x := range l {
		e := First(check(x), When(i > 0 && !isBelow(l[i-1], x), api.ErrOrder))
		if e != api.OK {
			return e
		}
	}
	return api.OK
}

// Shared returns what two intervals have in common; without that, its ends are
// in the wrong order.
func Shared(a, b api.Interval) api.Interval {
	return api.Interval{Low: max(a.Low, b.Low), High: min(a.High, b.High)}
}

// Length returns how many integers an interval has.
func Length(x api.Interval) int {
	return x.High - x.Low + 1
}

// Mapped returns what a function makes of each element of a list.
func Mapped[A, B any](l []A, change func(A) B) []B {
	out := make([]B, 0, len(l))
	for _, x := range l {
		out = append(out, change(x))
	}
	return out
}

// Folded returns all elements of a list together, or nothing of an empty one.
func Folded[T any](l []T, join func(T, T) T) T {
	var all T
	for _, x := range l {
		all = join(all, x)
	}
	return all
}

// Divisor returns the greatest common divisor; of 0 and a number it is the
// number without its sign.
func Divisor(a, b int) int {
	for b != 0 {
		a, b = b, a%b
	}
	return max(a, -a)
}

// Sign returns 1, 0 or -1, as a number is above, at or below 0.
func Sign(n int) int {
	return min(max(n, -1), 1)
}

// Quotient returns a / b in lowest terms, for b other than 0.
func Quotient(a, b int) api.Ratio {
	divisor := Divisor(a, b) * Sign(b)
	return api.Ratio{Num: a / divisor, Den: b / divisor}
}

// Lowered returns a / b rounded down, for b above 0.
func Lowered(a, b int) int {
	q := a / b
	if a%b < 0 {
		q--
	}
	return q
}

// Raised returns a / b rounded up, for b above 0.
func Raised(a, b int) int {
	return -Lowered(-a, b)
}

// Rounded returns the nearest integer of a / b, for b above 0; from the middle the
// greater one.
func Rounded(a, b int) int {
	return Lowered(2*a+b, 2*b)
}

// Extended adds an index to ascending spans; the last span grows if it ends
// there.
func Extended(l []api.Span, at int) []api.Span {
	if last := len(l) - 1; last >= 0 && l[last].To == at {
		l[last].To++
		return l
	}
	return append(l, api.Span{From: at, To: at + 1})
}
