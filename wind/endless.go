package wind

import "iter"

// endless is a list without an end: behind its last element comes the first one
// again.
type endless[T any] struct{ once []T }

// pairs yields each element once, with the one that comes behind it.
func (l endless[T]) pairs() iter.Seq2[T, T] {
	return func(yield func(T, T) bool) {
		for i, x := range l.once {
			if !yield(x, l.once[(i+1)%len(l.once)]) {
				return
			}
		}
	}
}

// with returns the list with an element more.
func (l endless[T]) with(x T) endless[T] { return endless[T]{append(l.once, x)} }
