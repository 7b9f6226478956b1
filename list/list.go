// Package list: a list that grows and shrinks at its end, and now and then within.
package list

import (
	"iter"
	"slices"
)

// List has entries, from the first to the last. What is asked for and is not there is the zero value.
type List[T comparable] struct{ entries []T }

// Len tells how many entries there are.
func (l *List[T]) Len() int { return len(l.entries) }

// At tells the entry of a number; the first is number 0.
func (l *List[T]) At(n int) T {
	if n < 0 || n >= len(l.entries) {
		var none T
		return none
	}
	return l.entries[n]
}

// Last tells the last entry.
func (l *List[T]) Last() T { return l.At(len(l.entries) - 1) }

// Has: x is an entry.
func (l *List[T]) Has(x T) bool { return slices.Contains(l.entries, x) }

// RightAhead tells the entry ahead of x.
func (l *List[T]) RightAhead(x T) T { return l.At(slices.Index(l.entries, x) - 1) }

// Push puts an entry last.
func (l *List[T]) Push(x T) { l.entries = append(l.entries, x) }

// Pop takes the last entry out, and tells it.
func (l *List[T]) Pop() T {
	x := l.Last()
	l.entries = l.entries[:max(0, len(l.entries)-1)]
	return x
}

// PopTo takes the last entry out, until x has been taken out, or none is left.
func (l *List[T]) PopTo(x T) {
	for len(l.entries) > 0 {
		if l.Pop() == x {
			return
		}
	}
}

// Remove takes an entry out, wherever it is.
func (l *List[T]) Remove(x T) {
	if n := slices.Index(l.entries, x); n >= 0 {
		l.entries = slices.Delete(l.entries, n, n+1)
	}
}

// Replace: y takes the place of the entry x.
func (l *List[T]) Replace(x, y T) {
	if n := slices.Index(l.entries, x); n >= 0 {
		l.entries[n] = y
	}
}

// PutBehind puts y in right behind the entry x.
func (l *List[T]) PutBehind(x, y T) {
	if n := slices.Index(l.entries, x); n >= 0 {
		l.entries = slices.Insert(l.entries, n+1, y)
	}
}

// Up goes over the entries from the last to the first. (The one that is gone over may be taken out or replaced.)
func (l *List[T]) Up() iter.Seq[T] { return l.upFrom(len(l.entries)) }

// Ahead goes likewise over the entries ahead of x.
func (l *List[T]) Ahead(x T) iter.Seq[T] { return l.upFrom(slices.Index(l.entries, x)) }

func (l *List[T]) upFrom(n int) iter.Seq[T] {
	return func(yield func(T) bool) {
		for at := n - 1; at >= 0; at-- {
			if !yield(l.At(at)) {
				return
			}
		}
	}
}
