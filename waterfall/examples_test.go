package waterfall_test

import (
	"math"
	"slices"
	"testing"

	"arrears/api"
	"arrears/waterfall"
)

const most, least = math.MaxInt64, math.MinInt64

func owes(fees, interest, principal int64) api.Owed {
	return api.Owed{Fees: fees, Interest: interest, Principal: principal}
}

func parted(fees, interest, principal, unapplied, recovery int64) api.Parts {
	return api.Parts{Fees: fees, Interest: interest, Principal: principal, Unapplied: unapplied, Recovery: recovery}
}

func from(debit, credit int, amount int64) api.Entry {
	return api.Entry{Debit: debit, Credit: credit, Amount: amount}
}

func list(entries ...api.Entry) []api.Entry { return entries }

func orders(t *testing.T, order int, want [3]int, known bool) {
	t.Helper()
	if got, ok := waterfall.Order(order); got != want || ok != known {
		t.Errorf("9.1: Order(%d) = %v, %v, want %v, %v", order, got, ok, want, known)
	}
}

// allocates holds Allocate to parts and OK.
func allocates(t *testing.T, order int, owed api.Owed, amount int64, want api.Parts) {
	t.Helper()
	if got, e := waterfall.Allocate(order, owed, amount); got != want || e != api.OK {
		t.Errorf("9.2: Allocate(%d, %v, %d) = %v, %d, want %v, OK", order, owed, amount, got, e, want)
	}
}

// refuses holds Allocate to an error, and to parts that are all 0.
func refuses(t *testing.T, order int, owed api.Owed, amount int64, why api.Errno) {
	t.Helper()
	if got, e := waterfall.Allocate(order, owed, amount); got != (api.Parts{}) || e != why {
		t.Errorf("9.2: Allocate(%d, %v, %d) = %v, %d, want all 0, %d", order, owed, amount, got, e, why)
	}
}

func recovers(t *testing.T, left, amount int64, want api.Parts, why api.Errno) {
	t.Helper()
	if got, e := waterfall.Recover(left, amount); got != want || e != why {
		t.Errorf("9.3: Recover(%d, %d) = %v, %d, want %v, %d", left, amount, got, e, want, why)
	}
}

// moves holds Entries to a list, and Undo to the same list with the accounts exchanged.
func moves(t *testing.T, parts api.Parts, want ...api.Entry) {
	t.Helper()
	if got := waterfall.Entries(parts); !slices.Equal(got, want) {
		t.Errorf("9.4: Entries(%v) = %v, want %v", parts, got, want)
	}
	var back []api.Entry
	for _, e := range want {
		back = append(back, from(e.Credit, e.Debit, e.Amount))
	}
	if got := waterfall.Undo(parts); !slices.Equal(got, back) {
		t.Errorf("9.5: Undo(%v) = %v, want %v", parts, got, back)
	}
}

// 9.1 to 9.3: the chapter's examples, row by row.
func TestExamplesOfParts(t *testing.T) {
	orders(t, 0, [3]int{3, 2, 1}, true)
	orders(t, 3, [3]int{2, 1, 3}, true)
	orders(t, 6, [3]int{}, false)
	orders(t, -1, [3]int{}, false)

	allocates(t, 0, owes(100, 50, 1000), 120, parted(100, 20, 0, 0, 0))
	allocates(t, 2, owes(100, 50, 1000), 120, parted(70, 50, 0, 0, 0))
	allocates(t, 4, owes(100, 50, 1000), 120, parted(0, 0, 120, 0, 0))
	allocates(t, 5, owes(100, 50, 1000), 1200, parted(100, 50, 1000, 50, 0))
	allocates(t, 1, owes(0, 0, 0), 7, parted(0, 0, 0, 7, 0))
	refuses(t, 6, owes(0, 0, 0), 0, api.ErrArg)
	refuses(t, 0, owes(0, -1, 0), 0, api.ErrArg)
	refuses(t, 0, owes(0, 0, 0), 0, api.ErrAmount)
	refuses(t, 0, owes(1, 1, 1), -5, api.ErrAmount)

	recovers(t, 30, 100, parted(0, 0, 0, 70, 30), api.OK)
	recovers(t, 100, 30, parted(0, 0, 0, 0, 30), api.OK)
	recovers(t, 0, 1, parted(0, 0, 0, 1, 0), api.OK)
	recovers(t, -1, 0, parted(0, 0, 0, 0, 0), api.ErrArg)
	recovers(t, 0, 0, parted(0, 0, 0, 0, 0), api.ErrAmount)
}

// 9.4, 9.5: the chapter's examples, row by row.
func TestExamplesOfEntries(t *testing.T) {
	parts := parted(100, 0, 20, -5, 0)
	if got := waterfall.Entries(parts); !slices.Equal(got, list(from(0, 3, 100), from(0, 1, 20))) {
		t.Errorf("9.4: Entries(%v) = %v", parts, got)
	}
	if got := waterfall.Undo(parts); !slices.Equal(got, list(from(3, 0, 100), from(1, 0, 20))) {
		t.Errorf("9.5: Undo(%v) = %v", parts, got)
	}
}
