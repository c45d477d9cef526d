// Package light is layer 1: names, ratios, samples, vectors, maps of light,
// transforms of four, telegrams, texts and streams. See shared/doc/01-light.md.
package light

import (
	"spillage/api"
)

// Limits of factors, shares, telegrams and frames.
const (
	MaxScale     = 1000
	MaxShare     = 4
	MaxTelegrams = 512
	Size         = 24
	Mark         = 77
)

// Map is rows of samples.
type Map struct {
	Width   int
	Height  int
	Samples []float32
}

// Telegram is an order of a station, with a counter and a vector.
type Telegram struct {
	Station int
	Counter int
	Order   int
	Vector  api.Vector
}
