package ledger_test

import (
	"math"
	"slices"
	"testing"

	"arrears/api"
)

// nowhere are numbers that no account has.
var nowhere = []int{-1, 12, -2, 13, -12, 24, 1 << 32, 1<<32 + 1, -1 << 32, math.MinInt, math.MaxInt}

// signs are the accounts' own sides, 1 for debit and -1 for credit, in the order of their numbers.
var signs = [api.Accounts]int64{1, 1, 1, 1, -1, -1, -1, -1, -1, 1, -1, 1}

// inOrder is a book of which every account stands on its own side, and none is 0.
func inOrder() api.Book {
	var b api.Book
	for account, sign := range signs {
		b.Net[account] = sign * int64(100+account)
	}
	return b
}

// with is the book with one net in the place of what stood there.
func with(b api.Book, account int, net int64) api.Book {
	b.Net[account] = net
	return b
}

// 8.1: of no entries: OK and the same book, just if the book is within the range and on its own sides.
func TestPostNothing(t *testing.T) {
	for _, none := range [][]api.Entry{nil, {}} {
		posts(t, book(), none, book())
		posts(t, inOrder(), none, inOrder())
		for account, sign := range signs {
			for _, b := range []api.Book{book(), inOrder()} {
				for _, size := range []int64{0, 1, most - 1, most} {
					posts(t, with(b, account, sign*size), none, with(b, account, sign*size))
				}
				for _, size := range []int64{1, 2, most - 1, most} {
					refuses(t, with(b, account, -sign*size), none, api.ErrSide)
				}
				refuses(t, with(b, account, least), none, api.ErrRange)
			}
		}
	}
}

// 8.1: an entry moves its amount between any two accounts: the debited net rises, the credited one falls.
func TestPostMoves(t *testing.T) {
	for debit := range api.Accounts {
		for credit := range api.Accounts {
			if debit == credit {
				continue
			}
			for _, amount := range []int64{1, 2, 50} {
				b := inOrder()
				want := with(with(b, debit, b.Net[debit]+amount), credit, b.Net[credit]-amount)
				posts(t, b, list(from(debit, credit, amount)), want)
			}
		}
	}
}

// 8.1: a debit and a credit must be 0 to 11, each.
func TestPostAccounts(t *testing.T) {
	posts(t, inOrder(), list(from(0, 11, 1)), with(with(inOrder(), 0, 101), 11, 110))
	posts(t, inOrder(), list(from(11, 0, 1)), with(with(inOrder(), 0, 99), 11, 112))
	for _, b := range []api.Book{book(), inOrder(), book(api.Cash, -1), book(api.Cash, least)} {
		for _, no := range nowhere {
			for account := range api.Accounts {
				refuses(t, b, list(from(no, account, 1)), api.ErrAccount)
				refuses(t, b, list(from(account, no, 1)), api.ErrAccount)
			}
			for _, other := range nowhere {
				refuses(t, b, list(from(no, other, 1)), api.ErrAccount)
			}
		}
	}
}

// 8.1: an entry from an account to itself is bad by its account, whatever its amount.
func TestPostSameAccount(t *testing.T) {
	for account := range api.Accounts {
		for _, amount := range []int64{1, 5, most, 0, -1, least} {
			refuses(t, book(), list(from(account, account, amount)), api.ErrAccount)
			refuses(t, inOrder(), list(from(account, account, amount)), api.ErrAccount)
		}
	}
}

// 8.1: an amount must be at least 1, and may be the greatest.
func TestPostAmounts(t *testing.T) {
	posts(t, book(), list(from(api.Cash, api.Funding, 1)), book(api.Cash, 1, api.Funding, -1))
	posts(t, book(), list(from(api.Cash, api.Funding, most)), book(api.Cash, most, api.Funding, -most))
	for _, b := range []api.Book{book(), inOrder(), book(api.Cash, -1), book(api.Cash, least)} {
		for _, amount := range []int64{0, -1, -2, -most, least} {
			refuses(t, b, list(from(api.Cash, api.Funding, amount)), api.ErrAmount)
			refuses(t, b, list(from(api.Funding, api.Cash, amount)), api.ErrAmount)
		}
	}
}

// 8.1: the first bad entry alone says the error, and of its two faults the account is named first.
func TestPostFirstBad(t *testing.T) {
	good := from(api.Cash, api.Funding, 5)
	byAccount := list(from(12, api.Cash, 5), from(api.Cash, -1, 5), from(api.Fees, api.Fees, 5))
	byAmount := list(from(api.Cash, api.Funding, 0), from(api.Cash, api.Funding, -1), from(api.Loss, api.Fees, least))
	byBoth := list(from(12, api.Cash, 0), from(api.Cash, -1, -1), from(api.Fees, api.Fees, least), from(-1, 12, 0))
	for goods := range 4 {
		ahead := slices.Repeat(list(good), goods)
		for _, amount := range byAmount {
			refuses(t, book(), append(slices.Clone(ahead), amount, good), api.ErrAmount)
			for _, account := range slices.Concat(byAccount, byBoth) {
				refuses(t, book(), append(slices.Clone(ahead), account, good), api.ErrAccount)
				refuses(t, book(), append(slices.Clone(ahead), account, amount), api.ErrAccount)
				refuses(t, book(), append(slices.Clone(ahead), amount, account), api.ErrAmount)
				refuses(t, book(), append(slices.Clone(ahead), amount, good, account), api.ErrAmount)
				refuses(t, book(), append(slices.Clone(ahead), account, good, amount), api.ErrAccount)
			}
		}
	}
}

// 8.1: a bad entry is told ahead of the range and the sides, wherever it stands and whatever the book is.
func TestPostBadAheadOfSums(t *testing.T) {
	overflow := list(from(api.Cash, api.Funding, most), from(api.Cash, api.Funding, most))
	wrongSide := list(from(api.Funding, api.Cash, 1))
	for _, b := range []api.Book{book(), inOrder(), book(api.Income, 1), book(api.Fees, least)} {
		for _, others := range [][]api.Entry{overflow, wrongSide} {
			refuses(t, b, slices.Concat(others, list(from(12, api.Cash, 1))), api.ErrAccount)
			refuses(t, b, slices.Concat(others, list(from(api.Loss, api.Cash, 0))), api.ErrAmount)
			refuses(t, b, slices.Concat(list(from(12, api.Cash, 1)), others), api.ErrAccount)
			refuses(t, b, slices.Concat(list(from(api.Loss, api.Cash, 0)), others), api.ErrAmount)
		}
	}
}

// 8.1: each account's net goes to the end of the range on its own side and no cent further.
func TestPostRange(t *testing.T) {
	for account, sign := range signs {
		if sign > 0 {
			full := book(int64(account), most-1, api.Income, -1000)
			posts(t, full, list(from(account, api.Income, 1)), book(int64(account), most, api.Income, -1001))
			refuses(t, full, list(from(account, api.Income, 2)), api.ErrRange)
			refuses(t, full, list(from(account, api.Income, most)), api.ErrRange)
		} else {
			full := book(int64(account), -most+1, api.Loss, 1000)
			posts(t, full, list(from(api.Loss, account, 1)), book(int64(account), -most, api.Loss, 1001))
			refuses(t, full, list(from(api.Loss, account, 2)), api.ErrRange)
			refuses(t, full, list(from(api.Loss, account, 3)), api.ErrRange)
			refuses(t, full, list(from(api.Loss, account, most)), api.ErrRange)
		}
	}
}

// 8.1: the net -9223372036854775808 fits an int64, but not the range: it is refused wherever it came from, and may be posted away.
func TestPostLeastNet(t *testing.T) {
	for account := range api.Accounts {
		other := (account + 1) % api.Accounts
		b := with(inOrder(), account, least)
		refuses(t, b, nil, api.ErrRange)
		refuses(t, b, list(from(api.Cash, api.Funding, 1), from(api.Funding, api.Cash, 1)), api.ErrRange)
		refuses(t, b, list(from(other, account, 1)), api.ErrRange)
		refuses(t, b, list(from(other, account, 1), from(account, other, 1)), api.ErrRange)
		if signs[account] < 0 {
			back := list(from(account, api.Loss, 1))
			posts(t, b, back, with(with(inOrder(), account, -most), api.Loss, inOrder().Net[api.Loss]-1))
		} else {
			refuses(t, b, list(from(account, other, 1)), api.ErrSide)
		}
	}
	// From the greatest that may be, a cent more leads there.
	refuses(t, book(api.Funding, -most, api.Cash, most-1), list(from(api.Cash, api.Funding, 1)), api.ErrRange)
	posts(t, book(api.Funding, -most, api.Cash, most), nil, book(api.Funding, -most, api.Cash, most))
	posts(t, book(api.Cash, least), list(from(api.Cash, api.Funding, most), from(api.Cash, api.Income, 1)), book(api.Funding, -most, api.Income, -1))
}

// 8.1: nets beyond an int64 on the way are no reason to refuse, on either side and however far.
func TestPostBeyondOnTheWay(t *testing.T) {
	out, back := from(api.Cash, api.Funding, most), from(api.Funding, api.Cash, most)
	full := book(api.Cash, most, api.Funding, -most)
	for _, times := range []int{1, 2, 3, 4, 7, 100} {
		outs, backs := slices.Repeat(list(out), times), slices.Repeat(list(back), times)
		for _, b := range []api.Book{book(), full, inOrder()} {
			posts(t, b, slices.Concat(outs, backs), b)
			posts(t, b, slices.Concat(backs, outs), b)
		}
		posts(t, book(), slices.Concat(outs, list(from(api.Cash, api.Income, 9)), backs), book(api.Cash, 9, api.Income, -9))
	}
	posts(t, full, list(out, back, back, from(api.Cash, api.Income, 3)), book(api.Cash, 3, api.Income, -3))
}

// 8.1: nets beyond an int64 at the end are refused, also where a sum of 64 bits would have come round to a fair number.
func TestPostBeyondAtTheEnd(t *testing.T) {
	for _, amount := range []int64{1 << 62, 1 << 61, 1 << 60} {
		around := int(1 << 32 / (amount >> 32) * 4) // so many make up 2^64
		for _, times := range []int{around - 1, around, around + 1, 2 * around} {
			refuses(t, book(), slices.Repeat(list(from(api.Cash, api.Funding, amount)), times), api.ErrRange)
			refuses(t, inOrder(), slices.Repeat(list(from(api.Funding, api.Cash, amount)), times), api.ErrRange)
			refuses(t, book(), slices.Repeat(list(from(api.Fees, api.FeeIncome, amount), from(api.Cash, api.Fees, amount)), times), api.ErrRange)
		}
	}
	refuses(t, book(), list(from(api.Cash, api.Funding, most), from(api.Cash, api.Funding, 1)), api.ErrRange)
	refuses(t, book(), list(from(api.Cash, api.Funding, most), from(api.Cash, api.Income, 1)), api.ErrRange)
	refuses(t, book(), list(from(api.Cash, api.Funding, most), from(api.Fees, api.Funding, 1)), api.ErrRange)
	refuses(t, book(), list(from(api.Cash, api.Funding, most), from(api.Cash, api.Funding, most), from(api.Funding, api.Cash, most-1)), api.ErrRange)
	posts(t, book(), list(from(api.Cash, api.Funding, most), from(api.Cash, api.Funding, most), from(api.Funding, api.Cash, most)), book(api.Cash, most, api.Funding, -most))
}

// 8.1: the range of every account is asked ahead of any side.
func TestPostRangeAheadOfSide(t *testing.T) {
	for far := range api.Accounts {
		for off, sign := range signs {
			if far == off {
				continue
			}
			refuses(t, with(with(inOrder(), far, least), off, -sign), nil, api.ErrRange)
			refuses(t, with(with(inOrder(), far, most), off, -sign*9), list(from(far, off, most)), api.ErrRange)
		}
	}
}

// 8.1: the sides are those of all accounts at the end: one that no entry names counts, one that is off only on the way does not.
func TestPostSides(t *testing.T) {
	through := list(from(api.Cash, api.Funding, 7))
	for account, sign := range signs {
		if account == api.Cash || account == api.Funding {
			continue
		}
		off := with(inOrder(), account, -sign)
		refuses(t, off, through, api.ErrSide)
		// The same cent is moved away: now all stand right.
		put := from(account, api.Income, 1)
		if sign < 0 {
			put = from(api.Principal, account, 1)
		}
		b := off
		b.Net[put.Debit]++
		b.Net[put.Credit]--
		posts(t, off, list(put), b)
	}
}

// 8.1: an account may be emptied to 0, and no cent below.
func TestPostToTheEdgeOfASide(t *testing.T) {
	for account, sign := range signs {
		size := int64(100 + account)
		other := (account + 5) % api.Accounts
		take := func(amount int64) []api.Entry {
			if sign < 0 {
				return list(from(account, other, amount))
			}
			return list(from(other, account, amount))
		}
		// The other account stands far from its edge, so that this one alone is asked.
		b := with(inOrder(), other, signs[other]*1000000)
		emptied := with(with(b, account, 0), other, b.Net[other]+sign*size)
		posts(t, b, take(size), emptied)
		refuses(t, b, take(size+1), api.ErrSide)
	}
}
