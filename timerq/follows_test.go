package timerq_test

import (
	"math/rand"
	"slices"
	"testing"

	"arrears/api"
	"arrears/timerq"
)

// popped is what PopDue tells of a day till it answers false.
func popped(q *timerq.Queue[int], day int) (list []api.Timer, values []int) {
	for {
		k, v, ok := q.PopDue(day)
		if !ok {
			return list, values
		}
		list, values = append(list, k), append(values, v)
	}
}

// manyKeys makes different keys of near days, in any order.
func manyKeys(random *rand.Rand, count int) []api.Timer {
	var list []api.Timer
	for range count {
		if k := key(random.Intn(12)-3, random.Intn(6)-1, random.Intn(6)-1); !slices.Contains(list, k) {
			list = append(list, k)
		}
	}
	return list
}

// inOrder lays keys in their order, each pair exchanged that stands wrong.
func inOrder(list []api.Timer) []api.Timer {
	list = slices.Clone(list)
	for i := range list {
		for j := i; j > 0 && isAhead(list[j], list[j-1]); j-- {
			list[j], list[j-1] = list[j-1], list[j]
		}
	}
	return list
}

// 11.9: PopDue tells all that is due at a day, each once and in order, and leaves the others; day by day it tells all.
func TestPopsAllDue(t *testing.T) {
	random := rand.New(rand.NewSource(1109))
	due := 0
	for range 500 {
		list := manyKeys(random, random.Intn(80))
		q := filled(t, list...)
		rest := inOrder(list)
		for day := -5; day < 10; day += 1 + random.Intn(4) {
			split := 0
			for split < len(rest) && rest[split].Day <= day {
				split++
			}
			got, values := popped(q, day)
			if !slices.Equal(got, rest[:split]) {
				t.Fatalf("11.9: of %v at %d come %v", rest, day, got)
			}
			for i, k := range got {
				if values[i] != 1+slices.Index(list, k) {
					t.Fatalf("11.9: with %v comes %d", k, values[i])
				}
			}
			rest, due = rest[split:], due+split
			lists(t, q, rest...)
		}
	}
	if due < 5000 {
		t.Errorf("too few of a kind: %d due", due)
	}
}

// ways fill a queue with the keys and the values 1, 2 .. by one road each.
func ways(random *rand.Rand) []func(q *timerq.Queue[int], list []api.Timer) {
	straight := func(q *timerq.Queue[int], list []api.Timer) {
		for i, k := range list {
			q.Put(k, i+1)
		}
	}
	return []func(q *timerq.Queue[int], list []api.Timer){
		straight,
		func(q *timerq.Queue[int], list []api.Timer) { // the last first
			for i := len(list) - 1; i >= 0; i-- {
				q.Put(list[i], i+1)
			}
		},
		func(q *timerq.Queue[int], list []api.Timer) { // in any order
			for _, i := range random.Perm(len(list)) {
				q.Put(list[i], i+1)
			}
		},
		func(q *timerq.Queue[int], list []api.Timer) { // put on far days, then moved
			for i, k := range list {
				q.Put(key(100+i, k.Loan, k.Kind), i+1)
			}
			for _, i := range random.Perm(len(list)) {
				q.Move(key(100+i, list[i].Loan, list[i].Kind), list[i].Day)
			}
		},
		func(q *timerq.Queue[int], list []api.Timer) { // others came and went
			for i, k := range list {
				q.Put(k, -1)
				q.Put(key(k.Day, 50, i), -1)
			}
			for _, i := range random.Perm(len(list)) {
				q.Cancel(key(list[i].Day, 50, i))
				q.Cancel(list[i])
				q.Put(list[i], i+1)
			}
		},
		func(q *timerq.Queue[int], list []api.Timer) { // a queue that was emptied
			straight(q, inOrder(list))
			popped(q, most)
			straight(q, list)
		},
		func(q *timerq.Queue[int], list []api.Timer) { // all moved away and back
			straight(q, list)
			for i, k := range list {
				q.Move(k, -100-i)
			}
			for _, i := range random.Perm(len(list)) {
				q.Move(key(-100-i, list[i].Loan, list[i].Kind), list[i].Day)
			}
		},
	}
}

// 11.9: what a queue answers hangs on its keys and values alone: however these came there, the same calls are answered alike.
func TestRoadsDoNotShow(t *testing.T) {
	random := rand.New(rand.NewSource(1119))
	for range 300 {
		list := manyKeys(random, random.Intn(60))
		m := &model{}
		for i, k := range list {
			m.put(k, i+1)
		}
		seed, steps := random.Int63(), random.Intn(60)
		for _, fill := range ways(random) {
			q := timerq.New[int]()
			fill(q, list)
			agrees(t, q, m)
			same := &model{slices.Clone(m.keys), slices.Clone(m.values)}
			// The model is told nothing of the road, and has the same calls each time.
			calls := rand.New(rand.NewSource(seed))
			for range steps {
				oneCall(t, calls, anyNumbers(calls, 9), q, same, tries{})
			}
			agrees(t, q, same)
			got, _ := popped(q, most)
			if !slices.Equal(got, same.list()) {
				t.Fatalf("11.9: %v come out as %v", same.keys, got)
			}
		}
	}
}

// 11.9: a hundred thousand keys, put in falling order, moved and cancelled, come out in order.
func TestManyKeys(t *testing.T) {
	const many = 100000
	q := timerq.New[int]()
	for n := range many {
		if q.Put(key(many-n, n%7, 1), n) != api.OK {
			t.Fatalf("11.2: Put %d is refused", n)
		}
	}
	for n := 0; n < many; n += 2 {
		if q.Move(key(many-n, n%7, 1), n-many) != api.OK {
			t.Fatalf("11.5: Move %d is refused", n)
		}
	}
	for n := 0; n < many; n += 4 {
		if !q.Cancel(key(n-many, n%7, 1)) {
			t.Fatalf("11.4: Cancel %d is refused", n)
		}
	}
	for n := 2; n < many; n += 4 {
		if k, v, ok := q.PopDue(0); k != key(n-many, n%7, 1) || v != n || !ok {
			t.Fatalf("11.7: PopDue(0) = %v, %d, %v, want that of %d", k, v, ok, n)
		}
	}
	popsNone(t, q, 0)
	for n := many - 1; n > 0; n -= 2 {
		if k, v, ok := q.PopDue(many); k != key(many-n, n%7, 1) || v != n || !ok {
			t.Fatalf("11.7: PopDue = %v, %d, %v, want that of %d", k, v, ok, n)
		}
	}
	lists(t, q)
}
