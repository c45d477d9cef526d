// Package light is layer 1: names, ratios, samples, vectors, maps of light,
// transforms of four, telegrams, texts and streams. See shared/doc/01-light.md.
package light

import (
	"spillage/api"
)

// Limits of factors, shares, telegrams and frames.
const (
	MaxScale     = 1000
	MaxShare     = 4
	MaxTelegrams = 512
	Size         = 24
	Mark         = 77
)

// Map is rows of samples.
type Map struct {
	Width   int
	Height  int
	Samples []float32
}

// Telegram is an order of a station, with a counter and a vector.
type Telegram struct {
	Station int
	Counter int
	Order   int
	Vector  api.Vector
}

// first returns the first of some errors that is one.
func first(errors ...api.Errno) api.Errno {
	for _, e := range errors {
		if e != api.OK {
			return e
		}
	}
	return api.OK
}

// mapped returns what a function makes of each element of a list.
func mapped[A, B any](l []A, change func(A) B) []B {
	out := make([]B, 0, len(l))
	for _, x := range l {
		out = append(out, change(x))
	}
	return out
}

func checkRange(n, low, high int) api.Errno {
	if n < low || n > high {
		return api.ErrRange
	}
	return api.OK
}
