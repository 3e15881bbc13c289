package backdate_test

import (
	"math/big"
	"math/rand"
	"slices"
	"testing"

	"arrears/api"
	"arrears/backdate"
)

// 23.4: from each account to each other one.
func TestEntriesOfTwo(t *testing.T) {
	for debit := range api.Accounts {
		for credit := range api.Accounts {
			if debit == credit {
				continue
			}
			for _, amount := range []int64{1, 5, most - 1, most} {
				settles(t, book(int64(debit), amount, int64(credit), -amount), entry(debit, credit, amount))
			}
		}
	}
}

// 23.4: the first account above 0 goes with the first below it, until the one or the other is 0.
func TestEntriesOfMany(t *testing.T) {
	settles(t, book(0, 3, 1, 4, 2, -5, 3, -2), entry(0, 2, 3), entry(1, 2, 2), entry(1, 3, 2))
	settles(t, book(0, -3, 1, -4, 2, 5, 3, 2), entry(2, 0, 3), entry(2, 1, 2), entry(3, 1, 2))
	settles(t, book(11, 9, 2, -4, 7, -5), entry(11, 2, 4), entry(11, 7, 5))
	settles(t, book(11, -9, 2, 4, 7, 5), entry(2, 11, 4), entry(7, 11, 5))
	// Equal ones go out together.
	settles(t, book(1, 4, 3, 6, 8, -4, 10, -6), entry(1, 8, 4), entry(3, 10, 6))
	// The greatest nets: no sum of those above 0 fits, but all together are 0.
	settles(t, book(0, most, 3, most, 5, -most, 9, -most), entry(0, 5, most), entry(3, 9, most))
	settles(t, book(0, most, 3, most, 4, most, 5, -most, 9, -most, 11, -most), entry(0, 5, most), entry(3, 9, most), entry(4, 11, most))
}

// 23.4: at most eleven.
func TestEntriesOfAll(t *testing.T) {
	for lone := range api.Accounts {
		var above, below api.Book
		var out, in []api.Entry
		for account := range api.Accounts {
			above.Net[account], below.Net[account] = -int64(account+1), int64(account+1)
			if account != lone {
				out = append(out, entry(lone, account, int64(account+1)))
				in = append(in, entry(account, lone, int64(account+1)))
			}
		}
		above.Net[lone], below.Net[lone] = int64(78-lone-1), -int64(78-lone-1)
		settles(t, above, out...)
		settles(t, below, in...)
	}
}

// 23.4: what does not add up to 0 is refused, however near, and however far.
func TestEntriesRefuseSums(t *testing.T) {
	for account := range int64(api.Accounts) {
		other := (account + 5) % api.Accounts
		for _, net := range []int64{1, -1, 5, most, -most} {
			settlesNot(t, book(account, net))
		}
		settlesNot(t, book(account, 5, other, -4))
		settlesNot(t, book(account, 5, other, -6))
		settlesNot(t, book(account, most, other, 1-most))
		settlesNot(t, book(account, most, other, most))
		settlesNot(t, book(account, -most, other, -most))
	}
	// Sums that are whole turns of 64 bits.
	settlesNot(t, book(0, 1<<62, 1, 1<<62, 2, 1<<62, 3, 1<<62))
	settlesNot(t, book(8, -1<<62, 9, -1<<62, 10, -1<<62, 11, -1<<62))
	settlesNot(t, book(0, most, 1, most, 2, 2))
	settlesNot(t, book(0, -most, 1, -most, 2, -2))
}

// 23.4: the least number is refused, also where the sum is 0.
func TestEntriesRefuseTheLeast(t *testing.T) {
	for account := range int64(api.Accounts) {
		one, two := (account+1)%api.Accounts, (account+7)%api.Accounts
		settlesNot(t, book(account, least, one, most, two, 1))
		settlesNot(t, book(account, least, one, 1<<62, two, 1<<62))
		settlesNot(t, book(account, least))
		settlesNot(t, book(account, least, one, least))
		settles(t, book(account, -most, one, most), entry(int(one), int(account), most))
	}
}

// modelEntries walks along the accounts above 0 and those below it in numbers without an end.
func modelEntries(change api.Book) ([]api.Entry, bool) {
	sum := new(big.Int)
	var above, below []int
	var left [api.Accounts]*big.Int
	for account, net := range change.Net {
		left[account] = big.NewInt(net)
		sum.Add(sum, left[account])
		if net == least {
			return nil, false
		}
		if net > 0 {
			above = append(above, account)
		} else if net < 0 {
			below = append(below, account)
		}
		left[account].Abs(left[account])
	}
	if sum.Sign() != 0 {
		return nil, false
	}
	var moves []api.Entry
	for len(above) > 0 {
		debit, credit := above[0], below[0]
		amount := new(big.Int).Set(left[debit])
		if left[credit].Cmp(amount) < 0 {
			amount.Set(left[credit])
		}
		moves = append(moves, entry(debit, credit, amount.Int64()))
		if left[debit].Sub(left[debit], amount).Sign() == 0 {
			above = above[1:]
		}
		if left[credit].Sub(left[credit], amount).Sign() == 0 {
			below = below[1:]
		}
	}
	return moves, true
}

// anyChange is a change whose nets add up to 0, if they can.
func anyChange(random *rand.Rand) api.Book {
	var change api.Book
	for range random.Intn(14) {
		one, two := random.Intn(api.Accounts), random.Intn(api.Accounts)
		amount := among[int64](random, 1, 2, 5, random.Int63n(100), random.Int63n(1e9), random.Int63(), most)
		raised, lowered := change.Net[one]+amount, change.Net[two]-amount
		if one != two && raised > change.Net[one] && lowered < change.Net[two] {
			change.Net[one], change.Net[two] = raised, lowered
		}
	}
	if random.Intn(10) == 0 {
		change.Net[random.Intn(api.Accounts)] += among[int64](random, 1, -1, 5, 1<<62, most)
	}
	if random.Intn(20) == 0 {
		change.Net[random.Intn(api.Accounts)] = least
	}
	return change
}

// 23.4: changes by lot, held against the model; the moves add up to the change.
func TestEntriesAgainstModel(t *testing.T) {
	random := rand.New(rand.NewSource(234))
	counts, told := map[int]int{}, 0
	for range 100000 {
		change := anyChange(random)
		want, ok := modelEntries(change)
		if !ok {
			settlesNot(t, change)
			continue
		}
		told++
		settles(t, change, want...)
		got, _ := backdate.Entries(change)
		counts[len(got)]++
		for _, e := range slices.Backward(got) {
			change.Net[e.Debit] -= e.Amount
			change.Net[e.Credit] += e.Amount
		}
		if change != (api.Book{}) {
			t.Errorf("23.4: the moves %+v leave %v of the change", got, change)
		}
	}
	if told < 50000 || told > 95000 {
		t.Errorf("%d of 100000 changes were settled", told)
	}
	for count := range 11 {
		if counts[count] < 100 {
			t.Errorf("%d moves came %d times", count, counts[count])
		}
	}
}
