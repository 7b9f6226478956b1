// Package list: a list that grows and shrinks at its end, and now and then within.
package list

import (
	"iter"
	"slices"
)

// List has entries, from the first to the last. What is asked for and is not there is the zero value.
type List[T comparable] struct{ entries []T }

// Len tells how many entries there are.
func (l *List[T]) Len() int { return len(l.entries) }

// At tells the entry of a number; the first is number 0.
func (l *List[T]) At(n int) T {
	if n < 0 || n >= len(l.entries) {
		var none T
		return none
	}
	return l.entries[n]
}

// Last tells the last entry.
func (l *List[T]) Last() T { return l.At(len(l.entries) - 1) }

// Push puts an entry last.
func (l *List[T]) Push(x T) { l.entries = append(l.entries, x) }

// Pop takes the last entry out, and tells it.
func (l *List[T]) Pop() T {
	x := l.Last()
	l.entries = l.entries[:max(0, len(l.entries)-1)]
	return x
}

// Remove takes an entry out, wherever it is.
func (l *List[T]) Remove(x T) {
	if n := slices.Index(l.entries, x); n >= 0 {
		l.entries = slices.Delete(l.entries, n, n+1)
	}
}

// Up goes over the entries from the last to the first.
func (l *List[T]) Up() iter.Seq[T] {
	return func(yield func(T) bool) {
		for n := len(l.entries) - 1; n >= 0; n-- {
			if !yield(l.At(n)) {
				return
			}
		}
	}
}
