package expect

import (
	"spillage/api"
)

// Call is a function with the names of what it takes, in their order, and the
// error of the right arguments.
type Call[A any] struct {
	What  string
	Takes []string
	Err   api.Errno
	Do    func(a A) ([]any, api.Errno)
}

// None returns no results, and an error.
func None(e api.Errno) ([]any, api.Errno) {
	return nil, e
}

// One returns one result, and an error.
func One[T any](x T, e api.Errno) ([]any, api.Errno) {
	return []any{x}, e
}

// Two returns two results, and an error.
func Two[T, U any](x T, y U, e api.Errno) ([]any, api.Errno) {
	return []any{x, y}, e
}

// Three returns three results, and an error.
func Three[T, U, V any](x T, y U, z V, e api.Errno) ([]any, api.Errno) {
	return []any{x, y, z}, e
}

// RightArguments reports each call that does not have its error of the right
// arguments.
func RightArguments[A any](t Test, calls []Call[A], right func() A) {
	t.Helper()
	for _, x := range calls {
		_, e := x.Do(right())
		Err(t, x.What, e, x.Err)
	}
}

// FirstFaults reports where the first wrong argument of a call does not decide, as
// FirstFault does.
func FirstFaults[A any](t Test, calls []Call[A], right func() A, faults map[string][]Fault[A], isNothing func(results []any) bool) {
	t.Helper()
	for _, x := range calls {
		FirstFault(t, x.What, x.Takes, right, faults, func(a A) (bool, api.Errno) {
			results, e := x.Do(a)
			return isNothing(results), e
		})
	}
}

// CallAll does all calls with some arguments, whatever they return.
func CallAll[A any](calls []Call[A], a A) {
	for _, x := range calls {
		x.Do(a)
	}
}

// CallAfter does all calls with the right arguments after each of some changes.
func CallAfter[A any](calls []Call[A], right func() A, changes ...func(a *A)) {
	for _, change := range changes {
		a := right()
		change(&a)
		CallAll(calls, a)
	}
}
