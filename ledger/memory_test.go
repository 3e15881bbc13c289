package ledger_test

import (
	"slices"
	"testing"

	"arrears/api"
	"arrears/ledger"
)

// guarded lays a list into the midst of a longer memory, and hands out that memory too.
func guarded[T any](list []T, guard T) (inside, all []T) {
	all = slices.Concat([]T{guard, guard}, list, slices.Repeat([]T{guard}, 16))
	return all[2 : 2+len(list)], all
}

// handedIn are lists of entries of all fates: posted, bad by account and amount, beyond the range, off the side.
func handedIn() [][]api.Entry {
	return [][]api.Entry{
		list(),
		list(from(api.Cash, api.Funding, 5)),
		list(from(api.Cash, api.Principal, 5), from(api.Principal, api.Funding, 5), from(api.Fees, api.FeeIncome, 3)),
		list(from(api.Cash, api.Funding, most), from(api.Cash, api.Funding, most)),
		list(from(api.Funding, api.Cash, 5)),
		list(from(api.Cash, api.Funding, 5), from(12, -1, 5)),
		list(from(api.Cash, api.Funding, 5), from(api.Cash, api.Funding, -5)),
	}
}

// 8.1, 8.6: lists of entries that are handed in stay as they are, what lies around them too.
func TestEntriesStay(t *testing.T) {
	for _, entries := range handedIn() {
		inside, all := guarded(entries, from(-7, 77, -777))
		before := slices.Clone(all)
		ledger.Post(inOrder(), inside)
		ledger.Post(book(), inside)
		if !slices.Equal(all, before) {
			t.Errorf("8.1: Post leaves %v behind, of %v", all, before)
		}
		ledger.Reverse(inside)
		if !slices.Equal(all, before) {
			t.Errorf("8.6: Reverse leaves %v behind, of %v", all, before)
		}
	}
}

// 8.5: a list of books that is handed in stays as it is, what lies around it too.
func TestBooksStay(t *testing.T) {
	for _, books := range [][]api.Book{
		{},
		{inOrder()},
		{inOrder(), book(api.Cash, 7), inOrder()},
		{book(api.Cash, most), book(api.Cash, 1)},
		{book(api.Cash, most), book(api.Cash, 1), book(api.Cash, -1)},
	} {
		inside, all := guarded(books, book(api.Loss, 777))
		before := slices.Clone(all)
		ledger.Total(inside)
		if !slices.Equal(all, before) {
			t.Errorf("8.5: Total leaves %v behind, of %v", all, before)
		}
	}
}

// 8.6: what Reverse answers is new memory, its spare room too: neither the list nor another answer changes with it.
func TestReverseIsNew(t *testing.T) {
	for _, entries := range handedIn() {
		inside, all := guarded(entries, from(-7, 77, -777))
		before := slices.Clone(all)
		first, second := ledger.Reverse(inside), ledger.Reverse(inside)
		kept := slices.Clone(second)
		first = first[:cap(first)]
		for i := range first {
			first[i] = from(9, 9, 9)
		}
		if !slices.Equal(all, before) || !slices.Equal(second, kept) {
			t.Errorf("8.6: Reverse(%v) shares memory", entries)
		}
		for i := range all {
			all[i] = from(8, 8, 8)
		}
		if !slices.Equal(second, kept) {
			t.Errorf("8.6: the answer to Reverse(%v) changes with the list", entries)
		}
	}
}

// 8.6: a Reverse of a Reverse is memory of its own, also of a list that reads the same.
func TestReverseTwice(t *testing.T) {
	entries := list(from(api.Cash, api.Cash, 5))
	once := ledger.Reverse(entries)
	twice := ledger.Reverse(once)
	once[0].Amount, twice[0].Amount = 6, 7
	if entries[0].Amount != 5 || once[0].Amount != 6 {
		t.Errorf("8.6: %v, %v, %v share memory", entries, once, twice)
	}
}

// 8.1: nothing is kept: the same call answers the same, whatever was called in between.
func TestNothingIsKept(t *testing.T) {
	entries := list(from(api.Cash, api.Funding, 5))
	for _, others := range handedIn() {
		posts(t, book(), entries, book(api.Cash, 5, api.Funding, -5))
		ledger.Post(inOrder(), others)
		ledger.Total([]api.Book{inOrder(), inOrder()})
		tries(t, inOrder(), 100+101+102+103+109+111, 104+105+106+107+108+110, true)
	}
}
