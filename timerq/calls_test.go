package timerq_test

import (
	"testing"

	"arrears/api"
	"arrears/timerq"
)

// 11.1: a new queue has no keys, whatever its values are.
func TestNewIsEmpty(t *testing.T) {
	lists(t, timerq.New[int]())
	lists(t, timerq.New[struct{}]())
	lists(t, timerq.New[func()]())
	q := timerq.New[string]()
	lists(t, q)
	popsNone(t, q, 0)
	popsNone(t, q, most)
	popsNone(t, q, least)
	gets(t, q, key(0, 0, 0), "", false)
	cancels(t, q, key(0, 0, 0), false)
	moves(t, q, key(0, 0, 0), 0, api.ErrKey)
	moves(t, q, key(0, 0, 0), 1, api.ErrKey)
	lists(t, q)
}

// 11.2: any three ints are a key, zeros, numbers below 0 and the ends of int too; another in one place is another key.
func TestAnyKey(t *testing.T) {
	numbers := []int{least, least + 1, -1, 0, 1, most - 1, most}
	q := timerq.New[int]()
	var want []api.Timer
	for _, day := range numbers {
		for _, loan := range numbers {
			for _, kind := range numbers {
				want = append(want, key(day, loan, kind))
			}
		}
	}
	for i := range want { // 5 and 343 have no divisor in common: each comes once
		i = i * 5 % len(want)
		puts(t, q, want[i], i, api.OK)
	}
	lists(t, q, want...)
	for i, k := range want {
		puts(t, q, k, -1, api.ErrKey)
		gets(t, q, k, i, true)
	}
	for i, k := range want {
		pops(t, q, most, k, i)
	}
	lists(t, q)
}

// 11.2: a refused Put leaves the value that is there, also where its own is the same or zero.
func TestPutTwice(t *testing.T) {
	q := filled(t, key(5, 1, 2), key(4, 1, 2))
	for _, v := range []int{0, 1, 7} {
		puts(t, q, key(5, 1, 2), v, api.ErrKey)
		puts(t, q, key(4, 1, 2), v, api.ErrKey)
	}
	lists(t, q, key(4, 1, 2), key(5, 1, 2))
	gets(t, q, key(5, 1, 2), 1, true)
	gets(t, q, key(4, 1, 2), 2, true)
}

// 11.2, 11.3: the zero value beside a key is a value as any other.
func TestZeroValue(t *testing.T) {
	q := timerq.New[int]()
	puts(t, q, key(0, 0, 0), 0, api.OK)
	gets(t, q, key(0, 0, 0), 0, true)
	puts(t, q, key(0, 0, 0), 1, api.ErrKey)
	moves(t, q, key(0, 0, 0), 0, api.OK)
	lists(t, q, key(0, 0, 0))
	pops(t, q, 0, key(0, 0, 0), 0)
	lists(t, q)
}

// 11.3: Get changes nothing, and does not take a key for one that differs in one place.
func TestGet(t *testing.T) {
	q := filled(t, key(5, 1, 2))
	for range 3 {
		gets(t, q, key(5, 1, 2), 1, true)
		for _, k := range keys(key(4, 1, 2), key(6, 1, 2), key(5, 0, 2), key(5, 2, 2), key(5, 1, 1), key(5, 1, 3), key(2, 1, 5), key(0, 0, 0)) {
			gets(t, q, k, 0, false)
		}
	}
	lists(t, q, key(5, 1, 2))
}

// 11.4: from each place of a queue a key is cancelled, the others stay; a key that is not there is refused.
func TestCancelEach(t *testing.T) {
	all := keys(key(1, 4, 4), key(2, 0, 0), key(2, 0, 1), key(2, 3, 0), key(3, -1, 0), key(3, 0, -1), key(9, 9, 9))
	for out := range all {
		q := filled(t, all...)
		cancels(t, q, all[out], true)
		cancels(t, q, all[out], false)
		gets(t, q, all[out], 0, false)
		moves(t, q, all[out], 4, api.ErrKey)
		var rest []api.Timer
		for i, k := range all {
			if i != out {
				gets(t, q, k, i+1, true)
				rest = append(rest, k)
			}
		}
		lists(t, q, rest...)
		puts(t, q, all[out], 77, api.OK)
		gets(t, q, all[out], 77, true)
		lists(t, q, all...)
		cancels(t, q, key(all[out].Day, all[out].Loan, 5), false)
		lists(t, q, all...)
	}
}

// 11.5: a key that is not there is refused, ahead of the question whether the day is its own.
func TestMoveWithoutKey(t *testing.T) {
	q := filled(t, key(5, 1, 2), key(6, 1, 2))
	moves(t, q, key(7, 1, 2), 7, api.ErrKey)
	moves(t, q, key(7, 1, 2), 8, api.ErrKey)
	moves(t, q, key(7, 1, 2), 5, api.ErrKey)
	moves(t, q, key(5, 2, 2), 9, api.ErrKey)
	moves(t, q, key(5, 1, 3), 9, api.ErrKey)
	lists(t, q, key(5, 1, 2), key(6, 1, 2))
	gets(t, q, key(5, 1, 2), 1, true)
	gets(t, q, key(6, 1, 2), 2, true)
}

// 11.5: a move to a key that is there is refused, and changes neither of the two; one to the own day is OK.
func TestMoveInTheWay(t *testing.T) {
	q := filled(t, key(5, 1, 2), key(6, 1, 2))
	moves(t, q, key(5, 1, 2), 6, api.ErrKey)
	moves(t, q, key(6, 1, 2), 5, api.ErrKey)
	moves(t, q, key(5, 1, 2), 5, api.OK)
	moves(t, q, key(6, 1, 2), 6, api.OK)
	lists(t, q, key(5, 1, 2), key(6, 1, 2))
	gets(t, q, key(5, 1, 2), 1, true)
	gets(t, q, key(6, 1, 2), 2, true)
}

// 11.5: keys of the day that differ in the loan or the kind are not in the way.
func TestMoveBesideOthers(t *testing.T) {
	q := filled(t, key(5, 1, 2), key(6, 1, 1), key(6, 1, 3), key(6, 0, 2), key(6, 2, 2))
	moves(t, q, key(5, 1, 2), 6, api.OK)
	lists(t, q, key(6, 0, 2), key(6, 1, 1), key(6, 1, 2), key(6, 1, 3), key(6, 2, 2))
	gets(t, q, key(6, 1, 2), 1, true)
	gets(t, q, key(5, 1, 2), 0, false)
	cancels(t, q, key(5, 1, 2), false)
	puts(t, q, key(5, 1, 2), 9, api.OK)
	gets(t, q, key(5, 1, 2), 9, true)
	gets(t, q, key(6, 1, 2), 1, true)
}

// 11.5: from each place of a queue a key is moved to each other, below the first and behind the last too.
func TestMoveEach(t *testing.T) {
	days := []int{10, 20, 30, 40, 50, 60, 70}
	for from := range days {
		for _, to := range []int{least, -1, 0, 15, 25, 35, 45, 55, 65, 75, most} {
			q, ahead := timerq.New[int](), 0
			for _, day := range days {
				puts(t, q, key(day, 1, 1), day, api.OK)
			}
			moves(t, q, key(days[from], 1, 1), to, api.OK)
			var want []api.Timer
			for i, day := range days {
				if i != from {
					want = append(want, key(day, 1, 1))
				}
				if i != from && day < to {
					ahead++
				}
			}
			want = append(want[:ahead], append(keys(key(to, 1, 1)), want[ahead:]...)...)
			lists(t, q, want...)
			for _, k := range want {
				if k.Day == to {
					pops(t, q, most, k, days[from])
				} else {
					pops(t, q, most, k, k.Day)
				}
			}
		}
	}
}

// 11.6: Next leaves the key where it is, and follows what is put, moved and taken out.
func TestNext(t *testing.T) {
	q := filled(t, key(5, 5, 5))
	isNext(t, q, key(5, 5, 5), true)
	isNext(t, q, key(5, 5, 5), true)
	puts(t, q, key(5, 5, 6), 2, api.OK)
	isNext(t, q, key(5, 5, 5), true)
	puts(t, q, key(5, 5, 4), 3, api.OK)
	isNext(t, q, key(5, 5, 4), true)
	puts(t, q, key(5, 4, 9), 4, api.OK)
	isNext(t, q, key(5, 4, 9), true)
	puts(t, q, key(4, 9, 9), 5, api.OK)
	isNext(t, q, key(4, 9, 9), true)
	moves(t, q, key(4, 9, 9), 6, api.OK)
	isNext(t, q, key(5, 4, 9), true)
	cancels(t, q, key(5, 4, 9), true)
	isNext(t, q, key(5, 5, 4), true)
	pops(t, q, 5, key(5, 5, 4), 3)
	isNext(t, q, key(5, 5, 5), true)
	lists(t, q, key(5, 5, 5), key(5, 5, 6), key(6, 9, 9))
}

// 11.7: due is a key whose Day is at most the day, to the ends of int; what is not due stays.
func TestDue(t *testing.T) {
	for _, day := range []int{least + 1, -1, 0, 1, 738032, most} {
		q := filled(t, key(day, 1, 1))
		popsNone(t, q, day-1)
		popsNone(t, q, least)
		lists(t, q, key(day, 1, 1))
		gets(t, q, key(day, 1, 1), 1, true)
		pops(t, q, day, key(day, 1, 1), 1)
		popsNone(t, q, day)
		lists(t, q)
		gets(t, q, key(day, 1, 1), 0, false)
	}
	q := filled(t, key(least, 1, 1), key(least, 1, 2), key(most, 1, 1))
	pops(t, q, least, key(least, 1, 1), 1)
	pops(t, q, most, key(least, 1, 2), 2)
	popsNone(t, q, most-1)
	pops(t, q, most, key(most, 1, 1), 3)
	popsNone(t, q, most)
}

// 11.7: a key that was popped is gone: it may be put again, with another value.
func TestPopAndPut(t *testing.T) {
	q := filled(t, key(1, 1, 1), key(2, 1, 1))
	pops(t, q, 1, key(1, 1, 1), 1)
	cancels(t, q, key(1, 1, 1), false)
	moves(t, q, key(1, 1, 1), 9, api.ErrKey)
	moves(t, q, key(2, 1, 1), 1, api.OK)
	puts(t, q, key(1, 1, 1), 8, api.ErrKey)
	puts(t, q, key(2, 1, 1), 9, api.OK)
	pops(t, q, 2, key(1, 1, 1), 2)
	pops(t, q, 2, key(2, 1, 1), 9)
	lists(t, q)
}

// 11.8: keys are counted and listed as they come and go; a List takes nothing out.
func TestListAndLen(t *testing.T) {
	q := timerq.New[int]()
	for n := range 20 {
		puts(t, q, key(-n, n%3, n), n, api.OK)
		if q.Len() != n+1 || len(q.List()) != n+1 || len(q.List()) != n+1 {
			t.Errorf("11.8: %d keys, %v, behind %d Puts", q.Len(), q.List(), n+1)
		}
	}
	for n := range 20 {
		cancels(t, q, key(-n, n%3, n), true)
		if q.Len() != 19-n || len(q.List()) != 19-n {
			t.Errorf("11.8: %d keys, %v, behind %d Cancels", q.Len(), q.List(), n+1)
		}
	}
}

// 11.2 to 11.7: beside a false every other result is zero, whatever the values are.
func TestZerosBesideFalse(t *testing.T) {
	type pair struct {
		n    int
		text string
	}
	structs, pointers, lists, functions := timerq.New[pair](), timerq.New[*int](), timerq.New[[]int](), timerq.New[func() int]()
	n := 7
	puts(t, structs, key(5, 5, 5), pair{7, "a"}, api.OK)
	puts(t, pointers, key(5, 5, 5), &n, api.OK)
	puts(t, lists, key(5, 5, 5), []int{7}, api.OK)
	if functions.Put(key(5, 5, 5), func() int { return 7 }) != api.OK {
		t.Errorf("11.2: a function is refused")
	}
	gets(t, structs, key(4, 5, 5), pair{}, false)
	gets(t, pointers, key(4, 5, 5), nil, false)
	popsNone(t, structs, 4)
	popsNone(t, pointers, 4)
	if v, ok := lists.Get(key(4, 5, 5)); v != nil || ok {
		t.Errorf("11.3: Get of no key = %v, %v", v, ok)
	}
	if k, v, ok := lists.PopDue(4); k != key(0, 0, 0) || v != nil || ok {
		t.Errorf("11.7: PopDue(4) = %v, %v, %v", k, v, ok)
	}
	if v, ok := functions.Get(key(4, 5, 5)); v != nil || ok {
		t.Errorf("11.3: Get of no key answers a function, %v", ok)
	}
	if k, v, ok := functions.PopDue(4); k != key(0, 0, 0) || v != nil || ok {
		t.Errorf("11.7: PopDue(4) = %v, a function, %v", k, ok)
	}
	if k, v, ok := functions.PopDue(5); k != key(5, 5, 5) || !ok || v() != 7 {
		t.Errorf("11.7: PopDue(5) = %v, a function, %v", k, ok)
	}
}
