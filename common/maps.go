package common

import (
	"iter"

	"spillage/api"
)

// Fineness is how many times a sample its integer is.
const Fineness = 16

// IntegerOf returns the integer of a sample.
func IntegerOf(x float32) int {
	return int(x * Fineness)
}

// SampleOf returns the sample with an integer.
func SampleOf(n int) float32 {
	return float32(n) / Fineness
}

// Places visits the places of a width and a height, row by row.
func Places(width, height int) iter.Seq[api.Point] {
	return func(yield func(api.Point) bool) {
		for y := range height {
			for x := range width {
				if !yield(api.Point{X: x, Y: y}) {
					return
				}
			}
		}
	}
}
