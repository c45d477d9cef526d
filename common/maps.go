package common

import (
	"iter"

	"spillage/api"
)

// Fineness is how many times a sample its integer is.
const Fineness = 16

// IntegerOf returns the integer of a sample.
func IntegerOf(x float32) int {
	return int(x * Fineness)
}

// SampleOf returns the sample with an integer.
func SampleOf(n int) float32 {
	return float32(n) / Fineness
}

// IsPlace reports whether a point is a place of a width and a height.
func IsPlace(p api.Point, width, height int) bool {
	return 0 <= p.X && p.X < width && 0 <= p.Y && p.Y < height
}

// Places visits the places of a width and a height, row by row.
func Places(width, height int) iter.Seq[api.Point] {
	return func(yield func(api.Point) bool) {
		for y := range height {
			for x := range width {
				if !yield(api.Point{X: x, Y: y}) {
					return
				}
			}
		}
	}
}

// PlacesIn visits the points whose X and Y are in two intervals, row by row.
func PlacesIn(columns, rows api.Interval) iter.Seq[api.Point] {
	corner := api.Point{X: columns.Low, Y: rows.Low}
	return func(yield func(api.Point) bool) {
		for p := range Places(Length(columns), Length(rows)) {
			if !yield(Plus(corner, p)) {
				return
			}
		}
	}
}
