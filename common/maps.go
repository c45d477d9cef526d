package common

import (
	"iter"
	"math"

	"spillage/api"
)

// Fineness is how many times a sample its integer is.
const Fineness = 16

// Real is the types that samples, and the parts of numbers, have.
type Real interface {
	~float32 | ~float64
}

// IntegerOf returns the integer of a multiple of 1/16.
func IntegerOf[T Real](x T) int {
	return int(x * Fineness)
}

// IsFinite reports whether a number is neither NaN nor infinite.
func IsFinite[T Real](x T) bool {
	return !math.IsNaN(float64(x)) && !math.IsInf(float64(x), 0)
}

// IsMultiple reports whether a finite number is a multiple of 1/16 from -limit
// to limit.
func IsMultiple[T Real](x T, limit float64) bool {
	n := float64(x) * Fineness
	return n == math.Trunc(n) && math.Abs(n) <= limit*Fineness
}

// SampleOf returns the sample with an integer.
func SampleOf(n int) float32 {
	return float32(n) / Fineness
}

// CheckNumber returns ErrForm for a number with a part that is NaN or infinite, then
// ErrRange for one with a part that is not a multiple of 1/16 from -limit to limit.
func CheckNumber(x complex128, limit float64) api.Errno {
	return First(
		When(!IsFinite(real(x)) || !IsFinite(imag(x)), api.ErrForm),
		When(!IsMultiple(real(x), limit) || !IsMultiple(imag(x), limit), api.ErrRange),
	)
}

// IsPlace reports whether a point is a place of a width and a height.
func IsPlace(p api.Point, width, height int) bool {
	return 0 <= p.X && p.X < width && 0 <= p.Y && p.Y < height
}

// Places visits the places of a width and a height, row by row.
func Places(width, height int) iter.Seq[api.Point] {
	return func(yield func(api.Point) bool) {
		for y := range height {
			for x := range width {
				if !yield(api.Point{X: x, Y: y}) {
					return
				}
			}
		}
	}
}

// PlacesIn visits the points whose X and Y are in two intervals, row by row.
func PlacesIn(columns, rows api.Interval) iter.Seq[api.Point] {
	corner := api.Point{X: columns.Low, Y: rows.Low}
	return func(yield func(api.Point) bool) {
		for p := range Places(Length(columns), Length(rows)) {
			if !yield(Plus(corner, p)) {
				return
			}
		}
	}
}
