package report_test

import (
	"math/big"
	"math/rand"
	"slices"
	"testing"

	"arrears/api"
)

// withBooks is a State of loans with these books, the other fields of which are whatever they are.
func withBooks(books ...api.Book) api.State {
	var s api.State
	for i, b := range books {
		s.Loans = append(s.Loans, api.Loan{ID: i - 1, Book: b, Case: api.Case{Status: i}, Day: -i})
	}
	return s
}

// book is made of pairs: an account and its net.
func book(pairs ...int64) api.Book {
	var b api.Book
	for i := 0; i < len(pairs); i += 2 {
		b.Net[pairs[i]] = pairs[i+1]
	}
	return b
}

// 21.7: the trial balance of a portfolio, reckoned by hand.
func TestTrial(t *testing.T) {
	tries(t, api.State{}, 0, 0, true)
	tries(t, api.State{Today: first, Loans: []api.Loan{}}, 0, 0, true)
	// Cash 0, Principal 3650000, Interest 42000 and Fees 10000 against Funding 3650000, Income 42000 and FeeIncome 10000.
	tries(t, late(t), 3702000, 3702000, true)
	tries(t, lived(t, example(), open(1, 500, 0, 1, 0), open(2, 700, 0, 1, 0), pay(2, 701)), 1201, 1201, true)
}

// 21.7: the books are added up first: what one has more of and another less of meets.
func TestTrialOfTheTotal(t *testing.T) {
	tries(t, withBooks(book(api.Cash, 5)), 5, 0, true)
	tries(t, withBooks(book(api.Cash, 5), book(api.Cash, -7)), 0, 2, true)
	tries(t, withBooks(book(api.Cash, 5, api.Loss, 3), book(api.Cash, -5, api.Waived, -4)), 3, 4, true)
	tries(t, withBooks(book(api.Cash, most), book(api.Cash, 1), book(api.Cash, -1)), most, 0, true)
	tries(t, withBooks(book(api.Income, least+1), book(api.Income, -7), book(api.Income, 7)), 0, most, true)
}

// 21.7: refused, where an account's total does not fit, and where one of the two sums does not.
func TestTrialBeyond(t *testing.T) {
	tries(t, withBooks(book(api.Cash, most), book(api.Cash, 1)), 0, 0, false)
	tries(t, withBooks(book(api.Income, least), book(api.Income, -1)), 0, 0, false)
	tries(t, withBooks(book(api.Cash, most), book(api.Fees, 1)), 0, 0, false)
	tries(t, withBooks(book(api.Cash, most-1), book(api.Fees, 1)), most, 0, true)
	tries(t, withBooks(book(api.Income, least)), 0, 0, false)
	tries(t, withBooks(book(api.Income, -most), book(api.Funding, -1), book(api.Cash, 9)), 0, 0, false)
	tries(t, withBooks(book(api.Income, -most+1), book(api.Funding, -1), book(api.Cash, 9)), 9, most, true)
	tries(t, withBooks(slices.Repeat([]api.Book{book(api.Cash, 1<<62)}, 4)...), 0, 0, false)
}

// modelTrial adds up in numbers without an end.
func modelTrial(s api.State) (int64, int64, bool) {
	debit, credit := new(big.Int), new(big.Int)
	for account := range api.Accounts {
		net := new(big.Int)
		for _, l := range s.Loans {
			net.Add(net, big.NewInt(l.Book.Net[account]))
		}
		if !net.IsInt64() {
			return 0, 0, false
		}
		if net.Sign() > 0 {
			debit.Add(debit, net)
		} else {
			credit.Sub(credit, net)
		}
	}
	if !debit.IsInt64() || !credit.IsInt64() {
		return 0, 0, false
	}
	return debit.Int64(), credit.Int64(), true
}

// 21.7: drawn books, held against the model.
func TestTrialAgainstModel(t *testing.T) {
	random := rand.New(rand.NewSource(217))
	met := map[bool]int{}
	for range 20000 {
		books := make([]api.Book, random.Intn(5))
		for i := range books {
			for range random.Intn(6) {
				books[i].Net[random.Intn(api.Accounts)] = among[int64](random, most, least, 1<<62, -1<<62, 1, -1, random.Int63()-random.Int63(), 1000)
			}
		}
		s := withBooks(books...)
		debit, credit, fits := modelTrial(s)
		tries(t, s, debit, credit, fits)
		met[fits]++
	}
	if met[true] < 2000 || met[false] < 2000 {
		t.Errorf("21.7: few of a kind: %v", met)
	}
}

// among is one of some values.
func among[T any](random *rand.Rand, values ...T) T {
	return values[random.Intn(len(values))]
}
