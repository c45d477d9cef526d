// Package expect has what the tests of the layers compare results with, and how
// they try the faults of arguments. No layer calls it.
package expect

import (
	"math"
	"slices"

	"spillage/api"
)

// Test is a test that is told what is wrong, as *testing.T is.
type Test interface {
	Helper()
	Errorf(format string, values ...any)
}

// Err reports an error that is not the expected one.
func Err(t Test, what string, got, wanted api.Errno) {
	t.Helper()
	if got != wanted {
		t.Errorf("%s: error %d, want %d", what, got, wanted)
	}
}

// Result reports a result or an error that is not the expected one.
func Result[T comparable](t Test, what string, got T, e api.Errno, wanted T, wantedErr api.Errno) {
	t.Helper()
	if got != wanted || e != wantedErr {
		t.Errorf("%s: got %v, error %d, want %v, error %d", what, got, e, wanted, wantedErr)
	}
}

// List reports a list or an error that is not the expected one; nil and empty
// lists are the same.
func List[T comparable](t Test, what string, got []T, e api.Errno, wanted []T, wantedErr api.Errno) {
	t.Helper()
	if !slices.Equal(got, wanted) || e != wantedErr {
		t.Errorf("%s: got %v, error %d, want %v, error %d", what, got, e, wanted, wantedErr)
	}
}

// Parsed reports a list, the index of a line or an error that is not the expected
// one of a text.
func Parsed[T comparable](t Test, parse func(string) ([]T, int, api.Errno), s string, wanted []T, index int, wantedErr api.Errno) {
	t.Helper()
	got, i, e := parse(s)
	if !slices.Equal(got, wanted) || i != index || e != wantedErr {
		t.Errorf("Parse %.60q: got %v, line %d, error %d, want %v, line %d, error %d", s, got, i, e, wanted, index, wantedErr)
	}
}

// Outside returns the numbers beside a range, and those that are far away.
func Outside(low, high int) []int {
	return []int{low - 1, high + 1, -1 << 40, 1 << 40, math.MaxInt, math.MinInt, math.MinInt + 1}
}
