package timerq_test

import (
	"runtime"
	"slices"
	"testing"
	"weak"

	"arrears/api"
	"arrears/timerq"
)

// 11.8: a List is new memory, its spare room too: what is written there shows nowhere, and nothing that is called later shows in it.
func TestListIsNew(t *testing.T) {
	all := keys(key(1, 1, 1), key(2, 2, 2), key(3, 3, 3), key(4, 4, 4), key(5, 5, 5))
	q := filled(t, all...)
	first, second := q.List(), q.List()
	first = first[:cap(first)]
	for i := range first {
		first[i] = key(99, 99, 99)
	}
	if !slices.Equal(second, all) {
		t.Errorf("11.8: two Lists share memory: %v", second)
	}
	lists(t, q, all...)
	for i, k := range all {
		gets(t, q, k, i+1, true)
	}
	gets(t, q, key(99, 99, 99), 0, false)
	moves(t, q, key(1, 1, 1), 9, api.OK)
	cancels(t, q, key(2, 2, 2), true)
	pops(t, q, 3, key(3, 3, 3), 3)
	puts(t, q, key(0, 0, 0), 6, api.OK)
	if !slices.Equal(second, all) {
		t.Errorf("11.8: a List changes with what is called later: %v", second)
	}
}

// Two queues share nothing, those of one type neither.
func TestTwoQueues(t *testing.T) {
	p, q := timerq.New[int](), timerq.New[int]()
	puts(t, p, key(1, 1, 1), 1, api.OK)
	lists(t, q)
	puts(t, q, key(1, 1, 1), 2, api.OK)
	puts(t, q, key(2, 1, 1), 3, api.OK)
	gets(t, p, key(1, 1, 1), 1, true)
	gets(t, q, key(1, 1, 1), 2, true)
	moves(t, p, key(1, 1, 1), 2, api.OK)
	cancels(t, q, key(1, 1, 1), true)
	lists(t, p, key(2, 1, 1))
	lists(t, q, key(2, 1, 1))
	pops(t, p, 2, key(2, 1, 1), 1)
	pops(t, q, 2, key(2, 1, 1), 3)
	lists(t, timerq.New[int]())
}

// Values are handed on as they are: a slice with its memory and its spare room, a pointer as that pointer.
func TestValuesAsTheyAre(t *testing.T) {
	slots := timerq.New[[]int]()
	room := make([]int, 2, 5)
	puts(t, slots, key(1, 1, 1), room, api.OK)
	puts(t, slots, key(0, 1, 1), nil, api.OK)
	moves(t, slots, key(1, 1, 1), -4, api.OK)
	room[0] = 7
	if v, ok := slots.Get(key(-4, 1, 1)); !ok || len(v) != 2 || cap(v) != 5 || &v[0] != &room[0] || v[0] != 7 {
		t.Errorf("11.3: Get = %v, %v, of another memory", v, ok)
	}
	if _, v, ok := slots.PopDue(0); !ok || len(v) != 2 || cap(v) != 5 || &v[0] != &room[0] {
		t.Errorf("11.7: PopDue = %v, %v, of another memory", v, ok)
	}
	pointers := timerq.New[*int]()
	puts(t, pointers, key(1, 1, 1), &room[1], api.OK)
	gets(t, pointers, key(1, 1, 1), &room[1], true)
	pops(t, pointers, 1, key(1, 1, 1), &room[1])
}

// laid puts big values under some keys, and tells by weak pointers whether they are still held.
func laid(q *timerq.Queue[*[64]int], list []api.Timer) []weak.Pointer[[64]int] {
	var held []weak.Pointer[[64]int]
	for _, k := range list {
		v := new([64]int)
		q.Put(k, v)
		held = append(held, weak.Make(v))
	}
	return held
}

// 11.4, 11.7: a key is taken out with its value: the queue holds on to nothing that is gone.
func TestGoneIsNotKept(t *testing.T) {
	all := keys(key(3, 1, 1), key(1, 1, 1), key(2, 1, 1), key(5, 1, 1), key(4, 1, 1))
	for cancelled := range all {
		q := timerq.New[*[64]int]()
		held := laid(q, all)
		cancels(t, q, all[cancelled], true)
		gone, _ := q.Next()
		q.PopDue(most)
		runtime.GC()
		for i, k := range all {
			kept, out := held[i].Value() != nil, i == cancelled || k == gone
			if kept == out {
				t.Errorf("11.4, 11.7: of %v, without %v and %v, is the value of %v kept: %v", all, all[cancelled], gone, k, kept)
			}
		}
		runtime.KeepAlive(q)
	}
}
