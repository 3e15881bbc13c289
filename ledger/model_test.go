package ledger_test

import (
	"math/big"
	"math/rand"
	"testing"

	"arrears/api"
	"arrears/ledger"
)

// nets are a book's, in numbers without an end.
type nets [api.Accounts]*big.Int

func netsOf(b api.Book) nets {
	var n nets
	for account, net := range b.Net {
		n[account] = big.NewInt(net)
	}
	return n
}

// narrow is the book of these nets, if all of them are int64s.
func (n nets) narrow() (api.Book, bool) {
	var b api.Book
	for account, net := range n {
		if !net.IsInt64() {
			return api.Book{}, false
		}
		b.Net[account] = net.Int64()
	}
	return b, true
}

// modelPost is chapter 8's Post, by numbers without an end.
func modelPost(b api.Book, entries []api.Entry) (api.Book, api.Errno) {
	n := netsOf(b)
	for _, e := range entries {
		if min(e.Debit, e.Credit) < 0 || max(e.Debit, e.Credit) > 11 || e.Debit == e.Credit {
			return b, api.ErrAccount
		}
		if e.Amount <= 0 {
			return b, api.ErrAmount
		}
		amount := big.NewInt(e.Amount)
		n[e.Debit].Add(n[e.Debit], amount)
		n[e.Credit].Sub(n[e.Credit], amount)
	}
	for _, net := range n {
		if net.CmpAbs(big.NewInt(most)) > 0 {
			return b, api.ErrRange
		}
	}
	for account, net := range n {
		if int64(net.Sign())*signs[account] < 0 {
			return b, api.ErrSide
		}
	}
	posted, _ := n.narrow()
	return posted, api.OK
}

func modelTrial(b api.Book) (int64, int64, bool) {
	var sums [2]big.Int
	for _, net := range b.Net {
		side := &sums[0]
		if net < 0 {
			side = &sums[1]
		}
		size := big.NewInt(net)
		side.Add(side, size.Abs(size))
	}
	if !sums[0].IsInt64() || !sums[1].IsInt64() {
		return 0, 0, false
	}
	return sums[0].Int64(), sums[1].Int64(), true
}

func modelTotal(books []api.Book) (api.Book, bool) {
	n := netsOf(api.Book{})
	for _, b := range books {
		for account, net := range b.Net {
			n[account].Add(n[account], big.NewInt(net))
		}
	}
	return n.narrow()
}

// edgeNets are the numbers around which a net could leave its range or its side.
var edgeNets = []int64{least, least + 1, least + 2, -1 << 62, -1000, -2, -1, 0, 0, 0, 0, 0, 1, 2, 1000, 1 << 62, most - 1, most}

func pick(random *rand.Rand, from []int64) int64 { return from[random.Intn(len(from))] }

// anyBook has edges in so many of its accounts, sound ones or any.
func anyBook(random *rand.Rand, edges int, sound bool) api.Book {
	var b api.Book
	for range edges {
		account := random.Intn(api.Accounts)
		b.Net[account] = pick(random, edgeNets)
		if sound && (b.Net[account] < 0) != (signs[account] < 0) {
			b.Net[account] = -max(b.Net[account], least+1)
		}
	}
	return b
}

// anyEntries are mostly good ones, with now and then a number that may not be.
func anyEntries(random *rand.Rand, count int) []api.Entry {
	entries := mixed(random, count, []int64{1, 1, 2, 1000, 1 << 62, most - 1, most})
	for i := range entries {
		switch random.Intn(40) {
		case 0:
			entries[i].Debit = nowhere[random.Intn(len(nowhere))]
		case 1:
			entries[i].Credit = nowhere[random.Intn(len(nowhere))]
		case 2:
			entries[i].Credit = entries[i].Debit
		case 3:
			entries[i].Amount = pick(random, []int64{0, -1, -1000, least})
		}
	}
	return entries
}

// 8.1: any book and any entries, against numbers without an end.
func TestPostModel(t *testing.T) {
	random := rand.New(rand.NewSource(81))
	seen := map[api.Errno]int{}
	for round := range 60000 {
		b := anyBook(random, random.Intn(5), round%4 != 0)
		entries := anyEntries(random, random.Intn(7))
		if round%3 == 0 { // what leaves the range comes back
			for _, e := range entries {
				entries = append(entries, from(e.Credit, e.Debit, e.Amount))
			}
		}
		want, why := modelPost(b, entries)
		seen[why]++
		if got, e := ledger.Post(b, entries); got != want || e != why {
			t.Fatalf("8.1: Post(%v, %v) = %v, %d, want %v, %d", b, entries, got, e, want, why)
		}
	}
	for _, e := range []api.Errno{api.OK, api.ErrAccount, api.ErrAmount, api.ErrRange, api.ErrSide} {
		if seen[e] < 1000 {
			t.Errorf("too few answers %d: %v", e, seen)
		}
	}
}

// 8.4, 8.5: any books, against numbers without an end.
func TestSumsModel(t *testing.T) {
	random := rand.New(rand.NewSource(84))
	trials, sums := map[bool]int{}, map[bool]int{}
	for range 30000 {
		var books []api.Book
		for range random.Intn(6) {
			books = append(books, anyBook(random, random.Intn(6), false))
		}
		want, fits := modelTotal(books)
		totals(t, books, want, fits)
		sums[fits]++
		for _, b := range books {
			debit, credit, fits := modelTrial(b)
			tries(t, b, debit, credit, fits)
			trials[fits]++
		}
		if t.Failed() {
			return
		}
	}
	if min(trials[true], trials[false], sums[true], sums[false]) < 1000 {
		t.Errorf("too few of a kind: %v, %v", trials, sums)
	}
}
