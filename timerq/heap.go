package timerq

import (
	"cmp"

	"arrears/api"
)

// timer is a key with its value, as the heap holds them.
type timer[V any] struct {
	key   api.Timer
	value V
}

// compare is below 0, 0 or above 0: where the first key stands to the second in the order of keys.
func compare(a, b api.Timer) int {
	// Not by differences: any ints are a key, and those of far ones would wrap.
	return cmp.Or(
		cmp.Compare(a.Day, b.Day),
		cmp.Compare(a.Loan, b.Loan),
		cmp.Compare(a.Kind, b.Kind),
	)
}

// add lays a timer whose key is not there into the heap.
func (q *Queue[V]) add(t timer[V]) {
	q.heap = append(q.heap, t)
	q.settle(t, len(q.heap)-1)
}

// takeOut takes the timer of a place out of the heap; the last one fills the gap.
func (q *Queue[V]) takeOut(place int) timer[V] {
	gone, end := q.heap[place], len(q.heap)-1
	last := q.heap[end]
	// The spare room would hold on to its value.
	q.heap[end] = timer[V]{}
	q.heap = q.heap[:end]
	delete(q.places, gone.key)
	if place < end {
		q.settle(last, place)
	}
	return gone
}

// rename gives the timer of a place another key, one that is not there.
func (q *Queue[V]) rename(place int, k api.Timer) {
	t := q.heap[place]
	delete(q.places, t.key)
	t.key = k
	q.settle(t, place)
}

// settle lays a timer into a gap of the heap, or above or below it where its key asks for that.
func (q *Queue[V]) settle(t timer[V], gap int) {
	gap = q.raise(gap, t.key)
	gap = q.lower(gap, t.key)
	q.lay(t, gap)
}

// raise moves a gap up the heap till no greater key than this one is above it.
func (q *Queue[V]) raise(gap int, k api.Timer) int {
	for gap > 0 {
		above := (gap - 1) / 2
		if compare(q.heap[above].key, k) < 0 {
			break
		}
		q.lay(q.heap[above], gap)
		gap = above
	}
	return gap
}

// lower moves a gap down the heap till no lesser key than this one is below it.
func (q *Queue[V]) lower(gap int, k api.Timer) int {
	for {
		below, ok := q.below(gap)
		if !ok || compare(k, q.heap[below].key) < 0 {
			return gap
		}
		q.lay(q.heap[below], gap)
		gap = below
	}
}

// below is the place of the lesser of the two timers that hang on a place.
func (q *Queue[V]) below(place int) (int, bool) {
	left, right := 2*place+1, 2*place+2
	if left >= len(q.heap) {
		return 0, false
	}
	if right < len(q.heap) && compare(q.heap[right].key, q.heap[left].key) < 0 {
		return right, true
	}
	return left, true
}

// lay writes a timer to a place, in the heap and in the map alike.
func (q *Queue[V]) lay(t timer[V], place int) {
	q.heap[place] = t
	q.places[t.key] = place
}
