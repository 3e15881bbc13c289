package ledger_test

import (
	"math"
	"slices"
	"testing"

	"arrears/api"
	"arrears/ledger"
)

const most, least = math.MaxInt64, math.MinInt64

// book is made of pairs: an account and its net.
func book(pairs ...int64) api.Book {
	var b api.Book
	for i := 0; i < len(pairs); i += 2 {
		b.Net[pairs[i]] = pairs[i+1]
	}
	return b
}

func from(debit, credit int, amount int64) api.Entry {
	return api.Entry{Debit: debit, Credit: credit, Amount: amount}
}

func list(entries ...api.Entry) []api.Entry { return entries }

// posts holds Post to a book and OK.
func posts(t *testing.T, b api.Book, entries []api.Entry, want api.Book) {
	t.Helper()
	if got, e := ledger.Post(b, entries); got != want || e != api.OK {
		t.Errorf("8.1: Post(%v, %v) = %v, %d, want %v, OK", b, entries, got, e, want)
	}
}

// refuses holds Post to an error, and to the book just as it was handed in.
func refuses(t *testing.T, b api.Book, entries []api.Entry, why api.Errno) {
	t.Helper()
	if got, e := ledger.Post(b, entries); got != b || e != why {
		t.Errorf("8.1: Post(%v, %v) = %v, %d, want the same book, %d", b, entries, got, e, why)
	}
}

func balances(t *testing.T, b api.Book, account int, want int64, why api.Errno) {
	t.Helper()
	if got, e := ledger.Balance(b, account); got != want || e != why {
		t.Errorf("8.2: Balance(%v, %d) = %d, %d, want %d, %d", b, account, got, e, want, why)
	}
}

func tries(t *testing.T, b api.Book, debit, credit int64, fits bool) {
	t.Helper()
	if d, c, ok := ledger.Trial(b); d != debit || c != credit || ok != fits {
		t.Errorf("8.4: Trial(%v) = %d, %d, %v, want %d, %d, %v", b, d, c, ok, debit, credit, fits)
	}
}

func totals(t *testing.T, books []api.Book, want api.Book, fits bool) {
	t.Helper()
	if got, ok := ledger.Total(books); got != want || ok != fits {
		t.Errorf("8.5: Total(%v) = %v, %v, want %v, %v", books, got, ok, want, fits)
	}
}

func reverses(t *testing.T, entries, want []api.Entry) {
	t.Helper()
	if got := ledger.Reverse(entries); !slices.Equal(got, want) {
		t.Errorf("8.6: Reverse(%v) = %v, want %v", entries, got, want)
	}
}

// 8.1: the chapter's examples of Post, row by row.
func TestPostExamples(t *testing.T) {
	lent := book(api.Principal, 1000, api.Funding, -1000)
	full := book(api.Cash, most, api.Funding, -most)
	posts(t, book(), list(from(api.Principal, api.Funding, 100000)), book(api.Principal, 100000, api.Funding, -100000))
	posts(t, lent, list(from(api.Cash, api.Principal, 400)), book(api.Cash, 400, api.Principal, 600, api.Funding, -1000))
	refuses(t, lent, list(from(api.Cash, api.Principal, 1001)), api.ErrSide)
	posts(t, book(), list(from(api.Cash, api.Principal, 5), from(api.Principal, api.Funding, 5)), book(api.Cash, 5, api.Funding, -5))
	refuses(t, book(), list(from(api.Cash, api.Cash, 5)), api.ErrAccount)
	refuses(t, book(), list(from(12, api.Cash, 5)), api.ErrAccount)
	refuses(t, book(), list(from(api.Cash, -1, 0)), api.ErrAccount)
	refuses(t, book(), list(from(api.Cash, api.Funding, 0)), api.ErrAmount)
	refuses(t, book(), list(from(api.Cash, api.Funding, 5), from(api.Cash, api.Funding, -1), from(12, 12, 0)), api.ErrAmount)
	refuses(t, full, list(from(api.Cash, api.Funding, 1)), api.ErrRange)
	posts(t, full, list(from(api.Cash, api.Funding, 1), from(api.Funding, api.Cash, 2)), book(api.Cash, most-1, api.Funding, -most+1))
	refuses(t, book(api.Cash, -1), nil, api.ErrSide)
	refuses(t, book(api.Funding, -most-1), nil, api.ErrRange)
}

// 8.2 to 8.6: the chapter's examples of the other calls, row by row.
func TestOtherExamples(t *testing.T) {
	balances(t, book(api.Funding, -1000), api.Funding, 1000, api.OK)
	balances(t, book(api.Cash, -3), api.Cash, -3, api.OK)
	balances(t, book(), 12, 0, api.ErrAccount)
	balances(t, book(api.Funding, -most-1), api.Funding, 0, api.ErrRange)
	balances(t, book(api.Cash, -most-1), api.Cash, -most-1, api.OK)

	for account, want := range map[int]bool{api.Cash: true, api.Waived: true, api.Recovery: false, -1: false, 12: false} {
		if got := ledger.Debits(account); got != want {
			t.Errorf("8.3: Debits(%d) = %v", account, got)
		}
	}

	tries(t, book(api.Cash, 400, api.Principal, 600, api.Funding, -1000), 1000, 1000, true)
	tries(t, book(api.Cash, most, api.Fees, 1), 0, 0, false)
	tries(t, book(api.Funding, -most-1), 0, 0, false)

	totals(t, []api.Book{book(api.Cash, 5), book(api.Cash, 7, api.Income, -2)}, book(api.Cash, 12, api.Income, -2), true)
	totals(t, []api.Book{}, book(), true)
	totals(t, []api.Book{book(api.Cash, most), book(api.Cash, 1), book(api.Cash, -1)}, book(api.Cash, most), true)
	totals(t, []api.Book{book(api.Cash, most), book(api.Cash, 1)}, book(), false)

	reverses(t, list(from(api.Cash, api.Fees, 5), from(api.Cash, api.Interest, 7)), list(from(api.Interest, api.Cash, 7), from(api.Fees, api.Cash, 5)))
}
