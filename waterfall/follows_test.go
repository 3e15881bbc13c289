package waterfall_test

import (
	"math/rand"
	"testing"

	"arrears/api"
	"arrears/ledger"
	"arrears/waterfall"
)

func plus(a, b api.Parts) api.Parts {
	return parted(a.Fees+b.Fees, a.Interest+b.Interest, a.Principal+b.Principal, a.Unapplied+b.Unapplied, a.Recovery+b.Recovery)
}

// 9.6: two payments, the second on what is owed still, come to the same parts as one of both.
func TestTwoPaymentsAreOne(t *testing.T) {
	random := rand.New(rand.NewSource(96))
	paid := 0
	for range 100000 {
		order := random.Intn(6)
		owed, first, second := owes(anyNumber(random), anyNumber(random), anyNumber(random)), anyNumber(random), anyNumber(random)
		if min(owed.Fees, owed.Interest, owed.Principal) < 0 || min(first, second) < 1 || first > most-second {
			continue
		}
		paid++
		one, e1 := waterfall.Allocate(order, owed, first)
		still := owes(owed.Fees-one.Fees, owed.Interest-one.Interest, owed.Principal-one.Principal)
		two, e2 := waterfall.Allocate(order, still, second)
		both, e3 := waterfall.Allocate(order, owed, first+second)
		if e1 != api.OK || e2 != api.OK || e3 != api.OK || plus(one, two) != both {
			t.Fatalf("9.6: order %d of %v: %v for %d and %v for %d are not %v", order, owed, one, first, two, second, both)
		}
	}
	if paid < 10000 {
		t.Errorf("only %d were paid", paid)
	}
}

// 9.6: so it is with recoveries.
func TestTwoRecoveriesAreOne(t *testing.T) {
	for left := range int64(8) {
		for first := int64(1); first < 8; first++ {
			for second := int64(1); second < 8; second++ {
				one, _ := waterfall.Recover(left, first)
				two, _ := waterfall.Recover(left-one.Recovery, second)
				recovers(t, left, first+second, plus(one, two), api.OK)
			}
		}
	}
}

// owing is a sound book with these debts.
func owing(owed api.Owed) api.Book {
	var b api.Book
	b.Net[api.Principal], b.Net[api.Funding] = owed.Principal, -owed.Principal
	b.Net[api.Interest], b.Net[api.Income] = owed.Interest, -owed.Interest
	b.Net[api.Fees], b.Net[api.FeeIncome] = owed.Fees, -owed.Fees
	return b
}

// paysAndTakesBack posts a payment's entries and then its undo, and holds the books to both.
func paysAndTakesBack(t *testing.T, b api.Book, parts api.Parts, amount int64) {
	t.Helper()
	paid, e := ledger.Post(b, waterfall.Entries(parts))
	if e != api.OK || paid.Net[api.Cash]-b.Net[api.Cash] != amount {
		t.Fatalf("9.6: %v posted to %v: %v, %d: Cash is to rise by %d", parts, b, paid, e, amount)
	}
	want := b
	want.Net[api.Cash] += amount
	want.Net[api.Fees] -= parts.Fees
	want.Net[api.Interest] -= parts.Interest
	want.Net[api.Principal] -= parts.Principal
	want.Net[api.Unapplied] -= parts.Unapplied
	want.Net[api.Recovery] -= parts.Recovery
	if paid != want {
		t.Fatalf("9.6: %v posted to %v: %v, want %v", parts, b, paid, want)
	}
	if back, e := ledger.Post(paid, waterfall.Undo(parts)); e != api.OK || back != b {
		t.Fatalf("9.6: %v taken back: %v, %d, want %v", parts, back, e, b)
	}
}

// 9.6: a payment's entries raise Cash by the amount and bring the debts down; its undo leaves the books as they were.
func TestPaymentInTheBooks(t *testing.T) {
	random := rand.New(rand.NewSource(961))
	paid := 0
	for range 50000 {
		owed, amount := owes(anyNumber(random), anyNumber(random), anyNumber(random)), anyNumber(random)
		parts, e := waterfall.Allocate(random.Intn(6), owed, amount)
		if e != api.OK {
			continue
		}
		paid++
		paysAndTakesBack(t, owing(owed), parts, amount)
	}
	if paid < 5000 {
		t.Errorf("only %d were paid", paid)
	}
}

// 9.6: a recovery's do so too, on a loan that owes nothing any more.
func TestRecoveryInTheBooks(t *testing.T) {
	var b api.Book
	b.Net[api.Loss], b.Net[api.Funding] = 100, -100
	for _, left := range []int64{0, 1, 30, 100, most} {
		for _, amount := range []int64{1, 29, 30, 31, 100, 101, most} {
			parts, e := waterfall.Recover(left, amount)
			if e != api.OK {
				t.Fatalf("9.3: Recover(%d, %d): %d", left, amount, e)
			}
			paysAndTakesBack(t, b, parts, amount)
		}
	}
}
