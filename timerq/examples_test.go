package timerq_test

import (
	"math"
	"slices"
	"testing"

	"arrears/api"
	"arrears/timerq"
)

const most, least = math.MaxInt, math.MinInt

func key(day, loan, kind int) api.Timer { return api.Timer{Day: day, Loan: loan, Kind: kind} }

func keys(list ...api.Timer) []api.Timer { return list }

func puts[V any](t *testing.T, q *timerq.Queue[V], k api.Timer, v V, want api.Errno) {
	t.Helper()
	if got := q.Put(k, v); got != want {
		t.Errorf("11.2: Put(%v, %v) = %d, want %d", k, v, got, want)
	}
}

func gets[V comparable](t *testing.T, q *timerq.Queue[V], k api.Timer, want V, found bool) {
	t.Helper()
	if got, ok := q.Get(k); got != want || ok != found {
		t.Errorf("11.3: Get(%v) = %v, %v, want %v, %v", k, got, ok, want, found)
	}
}

func cancels[V any](t *testing.T, q *timerq.Queue[V], k api.Timer, want bool) {
	t.Helper()
	if got := q.Cancel(k); got != want {
		t.Errorf("11.4: Cancel(%v) = %v, want %v", k, got, want)
	}
}

func moves[V any](t *testing.T, q *timerq.Queue[V], k api.Timer, day int, want api.Errno) {
	t.Helper()
	if got := q.Move(k, day); got != want {
		t.Errorf("11.5: Move(%v, %d) = %d, want %d", k, day, got, want)
	}
}

func isNext[V any](t *testing.T, q *timerq.Queue[V], want api.Timer, found bool) {
	t.Helper()
	if got, ok := q.Next(); got != want || ok != found {
		t.Errorf("11.6: Next() = %v, %v, want %v, %v", got, ok, want, found)
	}
}

func pops[V comparable](t *testing.T, q *timerq.Queue[V], day int, want api.Timer, value V) {
	t.Helper()
	if got, v, ok := q.PopDue(day); got != want || v != value || !ok {
		t.Errorf("11.7: PopDue(%d) = %v, %v, %v, want %v, %v, true", day, got, v, ok, want, value)
	}
}

func popsNone[V comparable](t *testing.T, q *timerq.Queue[V], day int) {
	t.Helper()
	var zero V
	if got, v, ok := q.PopDue(day); got != key(0, 0, 0) || v != zero || ok {
		t.Errorf("11.7: PopDue(%d) = %v, %v, %v, want zeros and false", day, got, v, ok)
	}
}

// lists holds List to these keys, and Len and Next to what follows from them.
func lists[V any](t *testing.T, q *timerq.Queue[V], want ...api.Timer) {
	t.Helper()
	if got := q.List(); !slices.Equal(got, want) {
		t.Errorf("11.8: List() = %v, want %v", got, want)
	}
	if got := q.Len(); got != len(want) {
		t.Errorf("11.8: Len() = %d, want %d", got, len(want))
	}
	if len(want) > 0 {
		isNext(t, q, want[0], true)
	} else {
		isNext(t, q, key(0, 0, 0), false)
	}
}

// filled is a queue of these keys; the value of each is its number in the list, from 1 on.
func filled(t *testing.T, list ...api.Timer) *timerq.Queue[int] {
	t.Helper()
	q := timerq.New[int]()
	for i, k := range list {
		puts(t, q, k, i+1, api.OK)
	}
	return q
}

// The chapter's examples, row by row, in one queue.
func TestExamples(t *testing.T) {
	q := timerq.New[string]()
	lists(t, q)
	popsNone(t, q, 99)

	puts(t, q, key(5, 1, 2), "a", api.OK)
	puts(t, q, key(5, 1, 1), "b", api.OK)
	puts(t, q, key(4, 9, 3), "c", api.OK)
	puts(t, q, key(5, 0, 9), "d", api.OK)

	puts(t, q, key(5, 1, 2), "x", api.ErrKey)
	gets(t, q, key(5, 1, 2), "a", true)

	lists(t, q, key(4, 9, 3), key(5, 0, 9), key(5, 1, 1), key(5, 1, 2))

	popsNone(t, q, 3)
	pops(t, q, 4, key(4, 9, 3), "c")

	moves(t, q, key(5, 1, 1), 5, api.OK)
	moves(t, q, key(5, 1, 1), -7, api.OK)
	isNext(t, q, key(-7, 1, 1), true)

	puts(t, q, key(8, 1, 1), "e", api.OK)
	moves(t, q, key(8, 1, 1), -7, api.ErrKey)
	moves(t, q, key(3, 3, 3), 3, api.ErrKey)

	cancels(t, q, key(5, 1, 1), false)
	cancels(t, q, key(5, 0, 9), true)
	gets(t, q, key(5, 0, 9), "", false)

	pops(t, q, 7, key(-7, 1, 1), "b")
	pops(t, q, 7, key(5, 1, 2), "a")
	popsNone(t, q, 7)

	lists(t, q, key(8, 1, 1))
}
