package ledger_test

import (
	"math/big"
	"math/rand"
	"slices"
	"testing"

	"arrears/api"
	"arrears/ledger"
)

// natural is a list of entries from credit accounts to debit accounts, so that every posting of them to a sound book is OK.
func natural(random *rand.Rand, count int) []api.Entry {
	debit := []int{api.Cash, api.Principal, api.Interest, api.Fees, api.Loss, api.Waived}
	credit := []int{api.Unapplied, api.Suspense, api.Funding, api.Income, api.FeeIncome, api.Recovery}
	var entries []api.Entry
	for range count {
		entries = append(entries, from(debit[random.Intn(6)], credit[random.Intn(6)], 1+random.Int63n(1000)))
	}
	return entries
}

// mixed is a list of good entries between any accounts, of which postings may be refused.
func mixed(random *rand.Rand, count int, amounts []int64) []api.Entry {
	var entries []api.Entry
	for range count {
		debit := random.Intn(api.Accounts)
		credit := (debit + 1 + random.Intn(api.Accounts-1)) % api.Accounts
		entries = append(entries, from(debit, credit, amounts[random.Intn(len(amounts))]))
	}
	return entries
}

// 8.7: in every book that postings made from zeros, debits equal credits, whatever was refused on the way.
func TestDebitsEqualCredits(t *testing.T) {
	random := rand.New(rand.NewSource(87))
	var posted, refused int
	for range 200 {
		var b api.Book
		for range 50 {
			entries := mixed(random, random.Intn(4), []int64{1, 2, 50, 1000, 1 << 62, most})
			if random.Intn(3) == 0 {
				entries = natural(random, 3)
			}
			var e api.Errno
			if b, e = ledger.Post(b, entries); e == api.OK {
				posted++
			} else {
				refused++
			}
			sum := new(big.Int)
			for _, net := range netsOf(b) {
				sum.Add(sum, net)
			}
			if debit, credit, ok := ledger.Trial(b); sum.Sign() != 0 || ok && debit != credit {
				t.Fatalf("8.7: the nets of %v add up to %v; Trial = %d, %d, %v", b, sum, debit, credit, ok)
			}
		}
	}
	if posted < 1000 || refused < 1000 {
		t.Errorf("too few of a kind: %d posted, %d refused", posted, refused)
	}
}

// 8.7: entries in another order lead to the same book, or to the same refusal.
func TestOrderCountsForNothing(t *testing.T) {
	random := rand.New(rand.NewSource(871))
	seen := map[api.Errno]int{}
	for round := range 2000 {
		b, entries := book(), natural(random, 6)
		switch round % 3 {
		case 1:
			b, entries = inOrder(), mixed(random, 6, []int64{1, 2, 30, 90})
		case 2:
			b, entries = inOrder(), mixed(random, 8, []int64{1 << 62, most - 1000, most})
		}
		want, why := ledger.Post(b, entries)
		seen[why]++
		for range 5 {
			other := slices.Clone(entries)
			random.Shuffle(len(other), func(i, j int) { other[i], other[j] = other[j], other[i] })
			if got, e := ledger.Post(b, other); got != want || e != why {
				t.Fatalf("8.7: Post(%v, %v) = %v, %d; with %v it is %v, %d", b, entries, want, why, other, got, e)
			}
		}
	}
	for _, e := range []api.Errno{api.OK, api.ErrRange, api.ErrSide} {
		if seen[e] < 100 {
			t.Errorf("too few answers %d: %v", e, seen)
		}
	}
}

// 8.7: where a list is cut in two postings that are both OK, the book is that of one posting; and at each end one of them is of nothing.
func TestCutsCountForNothing(t *testing.T) {
	random := rand.New(rand.NewSource(872))
	cuts := 0
	for round := range 500 {
		b, entries := inOrder(), natural(random, 8)
		if round%2 == 1 {
			entries = mixed(random, 8, []int64{1, 2, 30})
		}
		want, why := ledger.Post(b, entries)
		for cut := range len(entries) + 1 {
			middle, first := ledger.Post(b, entries[:cut])
			got, second := ledger.Post(middle, entries[cut:])
			if first != api.OK || second != api.OK {
				continue
			}
			cuts++
			if got != want || why != api.OK {
				t.Fatalf("8.7: %v cut at %d leads to %v, whole to %v, %d", entries, cut, got, want, why)
			}
		}
	}
	if cuts < 1000 {
		t.Errorf("only %d cuts in which both postings are OK", cuts)
	}
}

// 8.7: a long list that is posted entry by entry leads to the same book as at once.
func TestOneByOne(t *testing.T) {
	random := rand.New(rand.NewSource(873))
	entries := natural(random, 300)
	want, why := ledger.Post(inOrder(), entries)
	got := inOrder()
	for _, e := range entries {
		var one api.Errno
		if got, one = ledger.Post(got, list(e)); one != api.OK {
			t.Fatalf("8.7: Post of %v = %d", e, one)
		}
	}
	if got != want || why != api.OK {
		t.Errorf("8.7: one by one %v, at once %v, %d", got, want, why)
	}
}

// 8.7: posting the Reverse of what was posted leads back to a sound book, at the ends of the range too.
func TestReverseLeadsBack(t *testing.T) {
	random := rand.New(rand.NewSource(874))
	full := book(api.Cash, most, api.Fees, most, api.Funding, -most, api.Income, -most)
	done := 0
	for round := range 3000 {
		b, entries := book(), natural(random, random.Intn(6))
		switch round % 4 {
		case 1:
			b, entries = inOrder(), mixed(random, random.Intn(6), []int64{1, 2, 30, 90})
		case 2:
			b, entries = full, mixed(random, 2, []int64{1, 1000, most - 1, most})
		case 3:
			b, entries = full, append(mixed(random, 2, []int64{most}), from(api.Funding, api.Cash, most))
		}
		posted, e := ledger.Post(b, entries)
		if e != api.OK {
			continue
		}
		done++
		if back, e := ledger.Post(posted, ledger.Reverse(entries)); back != b || e != api.OK {
			t.Fatalf("8.7: from %v by %v and back: %v, %d", b, entries, back, e)
		}
	}
	if done < 1500 {
		t.Errorf("only %d postings were OK", done)
	}
}

// 8.7: a book that was not sound is not led back to: the Reverse is refused by that book's own fault.
func TestReverseToUnsoundBook(t *testing.T) {
	for _, c := range []struct {
		b       api.Book
		entries []api.Entry
		why     api.Errno
	}{
		{book(api.Cash, -1), list(from(api.Cash, api.Funding, 1)), api.ErrSide},
		{book(api.Income, 1), list(from(api.Cash, api.Income, 2)), api.ErrSide},
		{book(api.Funding, least), list(from(api.Funding, api.Income, 1)), api.ErrRange},
	} {
		posted, e := ledger.Post(c.b, c.entries)
		if e != api.OK {
			t.Fatalf("8.1: Post(%v, %v) = %d", c.b, c.entries, e)
		}
		refuses(t, posted, ledger.Reverse(c.entries), c.why)
	}
}
