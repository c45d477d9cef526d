package expect

import (
	"spillage/api"
)

// Fault makes one of some arguments wrong, which gives an error.
type Fault[A any] struct {
	Spoil func(a *A)
	Err   api.Errno
}

// Faults returns the faults of one argument by values that give an error where they
// are put.
func Faults[A, T any](e api.Errno, put func(a *A, x T), values ...T) []Fault[A] {
	var faults []Fault[A]
	for _, x := range values {
		faults = append(faults, Fault[A]{Spoil: func(a *A) { put(a, x) }, Err: e})
	}
	return faults
}

// Ranged returns the faults of a number that is not from low to high.
func Ranged[A any](low, high int, put func(a *A, n int)) []Fault[A] {
	return Faults(api.ErrRange, put, Outside(low, high)...)
}

// FirstFault reports where the first wrong one of the arguments that a call takes
// does not decide: each fault of each of them, alone and before faults of the
// arguments behind it, gives its error. The call returns its error, and whether
// all other results are nothing.
func FirstFault[A any](t Test, what string, takes []string, right func() A, faults map[string][]Fault[A], call func(a A) (bool, api.Errno)) {
	t.Helper()
	want := func(a A, wanted api.Errno, n int, place string) {
		t.Helper()
		if isNothing, e := call(a); e != wanted || !isNothing {
			t.Errorf("%s with the fault %d of its %s: error %d, want error %d and nothing beside it", what, n, place, e, wanted)
		}
	}
	for i, argument := range takes {
		for n, fault := range faults[argument] {
			a := right()
			fault.Spoil(&a)
			want(a, fault.Err, n, argument)
			for _, later := range takes[i+1:] {
				faults[later][n%len(faults[later])].Spoil(&a)
			}
			want(a, fault.Err, n, argument+", and later ones")
		}
	}
}
