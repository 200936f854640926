// Package queue holds what waits to be gone through, the first one first.
package queue

// Queue is what waits; an empty one is ready for use.
type Queue[T any] struct {
	items []T
	gone  int
}

// Push puts x behind all others.
func (q *Queue[T]) Push(x T) { q.items = append(q.items, x) }

// Pop takes the first one, and tells whether there was one.
func (q *Queue[T]) Pop() (x T, ok bool) {
	if q.Empty() {
		return x, false
	}
	x = q.items[q.gone]
	q.gone++
	return x, true
}

// Empty tells whether nothing waits.
func (q *Queue[T]) Empty() bool { return q.gone == len(q.items) }
