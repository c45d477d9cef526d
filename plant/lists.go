package plant

import (
	"iter"
	"slices"
)

// those visits the elements of a list that are asked for.
func those[T any](l []T, which func(T) bool) iter.Seq[T] {
	return func(yield func(T) bool) {
		for _, x := range l {
			if which(x) && !yield(x) {
				return
			}
		}
	}
}

// changed returns a copy of a list in which those elements that are asked for have
// changed.
func changed[T any](l []T, which func(T) bool, change func(x *T)) []T {
	l = slices.Clone(l)
	for i := range l {
		if which(l[i]) {
			change(&l[i])
		}
	}
	return l
}

// joined returns a list with an element more; it never grows in the memory of the
// list, which registers share.
func joined[T any](l []T, x T) []T {
	return append(slices.Clip(l), x)
}
