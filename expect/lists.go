package expect

// Spare returns a copy of a list with room behind it.
func Spare[T any](l []T) []T {
	return append(make([]T, 0, len(l)+9), l...)
}

// Fill changes all elements of a list, and what may stand behind them in its
// memory.
func Fill[T any](l []T, x T) {
	l = l[:cap(l)]
	for i := range l {
		l[i] = x
	}
}
