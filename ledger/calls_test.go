package ledger_test

import (
	"slices"
	"testing"

	"arrears/api"
	"arrears/ledger"
)

// 8.2: of a debit account its net, of a credit account its net with the sign turned; below 0 on the wrong side.
func TestBalance(t *testing.T) {
	for account, sign := range signs {
		for _, net := range []int64{0, 1, -1, 12345, -12345, most - 1, most, -most + 1, -most} {
			balances(t, with(inOrder(), account, net), account, sign*net, api.OK)
			balances(t, with(book(), account, net), account, sign*net, api.OK)
		}
	}
}

// 8.2: the net -9223372036854775808 can't have its sign turned: a credit account's balance does not fit, a debit account's does.
func TestBalanceOfLeastNet(t *testing.T) {
	for account, sign := range signs {
		b := with(inOrder(), account, least)
		if sign > 0 {
			balances(t, b, account, least, api.OK)
		} else {
			balances(t, b, account, 0, api.ErrRange)
		}
		// What another account holds counts for nothing.
		other := (account + 1) % api.Accounts
		balances(t, b, other, int64(100+other), api.OK)
	}
}

// 8.2: only 0 to 11 are accounts.
func TestBalanceOfNoAccount(t *testing.T) {
	for _, b := range []api.Book{book(), inOrder(), book(0, least, 11, least)} {
		for _, no := range nowhere {
			balances(t, b, no, 0, api.ErrAccount)
		}
	}
	balances(t, inOrder(), 0, 100, api.OK)
	balances(t, inOrder(), 11, 111, api.OK)
}

// 8.3: six accounts are debit accounts; all other numbers are not.
func TestDebits(t *testing.T) {
	for account, sign := range signs {
		if got := ledger.Debits(account); got != (sign > 0) {
			t.Errorf("8.3: Debits(%d) = %v", account, got)
		}
	}
	for _, no := range nowhere {
		if ledger.Debits(no) {
			t.Errorf("8.3: Debits(%d)", no)
		}
	}
}

// 8.4: nets are parted by their signs, whichever side the account is on.
func TestTrial(t *testing.T) {
	tries(t, book(), 0, 0, true)
	for account := range api.Accounts {
		for _, size := range []int64{1, 77, most - 1, most} {
			tries(t, with(book(), account, size), size, 0, true)
			tries(t, with(book(), account, -size), 0, size, true)
		}
	}
	var b api.Book
	for account := range api.Accounts {
		b.Net[account] = 1 << account
	}
	tries(t, b, 4095, 0, true)
	for account := range api.Accounts {
		b.Net[account] = -1 << account
		tries(t, b, 4095-(2<<account-1), 2<<account-1, true)
	}
}

// 8.4: each sum may be the greatest int64 and not one more; if one does not fit, neither is told.
func TestTrialAtTheEnd(t *testing.T) {
	for one := range api.Accounts {
		third := (one + api.Accounts - 1) % api.Accounts
		for step := 1; step < api.Accounts-1; step++ {
			other := (one + step) % api.Accounts
			for _, part := range []int64{1, 2, most / 2, most - 1} {
				fits := with(with(book(), one, most-part), other, part)
				tries(t, fits, most, 0, true)
				tries(t, with(fits, third, -9), most, 9, true)
				tries(t, with(fits, other, part+1), 0, 0, false)
				tries(t, with(with(fits, other, part+1), third, -9), 0, 0, false)

				fits = with(with(book(), one, part-most), other, -part)
				tries(t, fits, 0, most, true)
				tries(t, with(fits, third, 9), 9, most, true)
				tries(t, with(fits, other, -part-1), 0, 0, false)
				tries(t, with(with(fits, other, -part-1), third, 9), 0, 0, false)
			}
			tries(t, with(with(book(), one, most), other, -most), most, most, true)
			tries(t, with(with(book(), one, most), other, least), 0, 0, false)
		}
	}
}

// 8.4: sums that a sum of 64 bits would bring round to a fair number do not fit.
func TestTrialFarBeyond(t *testing.T) {
	for count := 1; count <= api.Accounts; count++ {
		var high, low api.Book
		for account := range count {
			high.Net[account], low.Net[account] = 1<<62, least
		}
		if count == 1 {
			tries(t, high, 1<<62, 0, true)
		} else {
			tries(t, high, 0, 0, false)
		}
		tries(t, low, 0, 0, false)
	}
	var both api.Book
	for account := range api.Accounts {
		both.Net[account] = most
		if account%2 == 0 {
			both.Net[account] = least
		}
	}
	tries(t, both, 0, 0, false)
}

// 8.5: of no books: the Book of zeros; of one: that book, whatever it is.
func TestTotalOfFew(t *testing.T) {
	totals(t, nil, book(), true)
	totals(t, []api.Book{}, book(), true)
	for _, b := range []api.Book{book(), inOrder(), book(api.Cash, -1), book(api.Income, 5), book(0, least, 3, most, 11, -most)} {
		totals(t, []api.Book{b}, b, true)
		totals(t, []api.Book{b, {}}, b, true)
	}
}

// 8.5: every account is added up for itself.
func TestTotal(t *testing.T) {
	var books []api.Book
	for range 9 {
		books = append(books, inOrder())
	}
	want := inOrder()
	for account := range want.Net {
		want.Net[account] *= 9
	}
	totals(t, books, want, true)
}

// 8.5: a sum may be any int64; one that is not makes the whole a Book of zeros.
func TestTotalAtTheEnd(t *testing.T) {
	for account := range api.Accounts {
		other := (account + 7) % api.Accounts
		one := func(net int64) api.Book { return with(with(book(), other, 5), account, net) }
		two := func(net int64) api.Book { return with(with(book(), other, 10), account, net) }
		for _, part := range []int64{1, 2, most / 2, most} {
			totals(t, []api.Book{one(most - part), one(part)}, two(most), true)
			totals(t, []api.Book{one(most - part), one(part), one(1)}, book(), false)
			totals(t, []api.Book{one(least + part), one(-part)}, two(least), true)
			totals(t, []api.Book{one(least + part), one(-part), one(-1)}, book(), false)
		}
	}
}

// 8.5: sums beyond an int64 on the way count for nothing, and at the end they do, however a sum of 64 bits would come round.
func TestTotalBeyond(t *testing.T) {
	up, down := book(api.Cash, most, api.Income, least), book(api.Cash, -most, api.Income, most)
	for _, times := range []int{1, 2, 3, 4, 50} {
		there := slices.Concat(slices.Repeat([]api.Book{up}, times), slices.Repeat([]api.Book{down}, times))
		totals(t, there, book(api.Income, int64(-times)), true)
		slices.Reverse(there)
		totals(t, there, book(api.Income, int64(-times)), true)
	}
	for _, times := range []int{2, 3, 4, 5, 8} {
		totals(t, slices.Repeat([]api.Book{book(api.Loss, least)}, times), book(), false)
		totals(t, slices.Repeat([]api.Book{book(api.Loss, 1<<62)}, times), book(), false)
	}
}

// 8.6: the opposite order, debit and credit exchanged, whatever the numbers are.
func TestReverse(t *testing.T) {
	reverses(t, nil, nil)
	reverses(t, list(), nil)
	for _, amount := range []int64{0, 1, -1, 5, most, least} {
		for _, no := range append(slices.Clone(nowhere), 0, 11) {
			reverses(t, list(from(no, 3, amount)), list(from(3, no, amount)))
			reverses(t, list(from(3, no, amount)), list(from(no, 3, amount)))
			reverses(t, list(from(no, no, amount)), list(from(no, no, amount)))
		}
	}
	var entries, want []api.Entry
	for i := range 20 {
		entries = append(entries, from(i, -i, int64(i*i-100)))
		want = slices.Insert(want, 0, from(-i, i, int64(i*i-100)))
		reverses(t, entries, want)
		reverses(t, ledger.Reverse(entries), entries)
	}
}
