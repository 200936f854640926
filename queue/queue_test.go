package queue

import "testing"

func TestQueue(t *testing.T) {
	var q Queue[int]
	if x, ok := q.Pop(); ok || x != 0 || !q.Empty() {
		t.Error("an empty one", x, ok)
	}
	for i := range 5 {
		q.Push(i)
		q.Push(i + 10)
		if x, ok := q.Pop(); !ok || x != []int{0, 10, 1, 11, 2}[i] || q.Empty() {
			t.Error(i, x, ok)
		}
	}
}
