package waterfall_test

import (
	"math/big"
	"math/rand"
	"testing"

	"arrears/api"
	"arrears/waterfall"
)

// centByCent is chapter 9's Allocate for small numbers: each cent goes to the first kind of the turn that is still owed one.
func centByCent(turn string, owed api.Owed, amount int64) api.Parts {
	var parts api.Parts
	for range amount {
		took := false
		for _, letter := range []byte(turn) {
			debt, paid := owed.Fees, &parts.Fees
			switch letter {
			case 'I':
				debt, paid = owed.Interest, &parts.Interest
			case 'P':
				debt, paid = owed.Principal, &parts.Principal
			}
			if !took && *paid < debt {
				*paid++
				took = true
			}
		}
		if !took {
			parts.Unapplied++
		}
	}
	return parts
}

// 9.2: all small debts and amounts, in all orders.
func TestAllocateCentByCent(t *testing.T) {
	for order, turn := range turns {
		for fees := range int64(5) {
			for interest := range int64(5) {
				for principal := range int64(5) {
					for amount := range int64(14) {
						owed := owes(fees, interest, principal)
						allocates(t, order, owed, amount+1, centByCent(turn, owed, amount+1))
					}
				}
			}
		}
	}
}

// modelAllocate is chapter 9's Allocate in numbers without an end: a kind gets what the amount is above the debts ahead of it, within 0 and its own debt.
func modelAllocate(order int, owed api.Owed, amount int64) (api.Parts, api.Errno) {
	if order < 0 || order > 5 || min(owed.Fees, owed.Interest, owed.Principal) < 0 {
		return api.Parts{}, api.ErrArg
	}
	if amount <= 0 {
		return api.Parts{}, api.ErrAmount
	}
	debts := map[byte]int64{'F': owed.Fees, 'I': owed.Interest, 'P': owed.Principal}
	ahead := new(big.Int)
	var paid [4]int64
	for i, letter := range []byte(turns[order]) {
		paid[i] = within(ahead, big.NewInt(debts[letter]), amount)
		ahead.Add(ahead, big.NewInt(debts[letter]))
	}
	paid[3] = within(ahead, new(big.Int).Lsh(big.NewInt(1), 80), amount)
	return partsOf(turns[order], paid), api.OK
}

// within is how much of the amount is above ahead, but at most so much.
func within(ahead, atMost *big.Int, amount int64) int64 {
	above := new(big.Int).Sub(big.NewInt(amount), ahead)
	if above.Sign() < 0 {
		return 0
	}
	if above.Cmp(atMost) > 0 {
		return atMost.Int64()
	}
	return above.Int64()
}

// anyNumber is often an edge, now and then below 0.
func anyNumber(random *rand.Rand) int64 {
	switch random.Intn(12) {
	case 0:
		return 0
	case 1:
		return most - random.Int63n(3)
	case 2:
		return -random.Int63n(3)
	case 3:
		return random.Int63()
	case 4:
		return 1<<62 + random.Int63n(5) - 2
	case 5:
		if random.Intn(4) == 0 {
			return least
		}
	}
	return random.Int63n(40)
}

// 9.2: held against the model, edges and wrong arguments among the rest.
func TestAllocateAsTheModel(t *testing.T) {
	random := rand.New(rand.NewSource(92))
	seen := map[api.Errno]int{}
	shapes := map[[4]bool]int{}
	for range 200000 {
		order := random.Intn(8) - 1
		owed := owes(anyNumber(random), anyNumber(random), anyNumber(random))
		amount := anyNumber(random)
		want, why := modelAllocate(order, owed, amount)
		got, e := waterfall.Allocate(order, owed, amount)
		if got != want || e != why {
			t.Fatalf("9.2: Allocate(%d, %v, %d) = %v, %d, want %v, %d", order, owed, amount, got, e, want, why)
		}
		seen[why]++
		shapes[[4]bool{got.Fees > 0, got.Interest > 0, got.Principal > 0, got.Unapplied > 0}]++
	}
	if len(seen) != 3 || min(seen[api.OK], seen[api.ErrArg], seen[api.ErrAmount]) < 1000 || len(shapes) != 16 {
		t.Errorf("too few of a kind: %v, %v", seen, shapes)
	}
}

// 9.2: what the promise says in brackets, told of the answer alone.
func TestAllocateAddsUp(t *testing.T) {
	random := rand.New(rand.NewSource(921))
	paid := 0
	for range 100000 {
		order := random.Intn(6)
		owed, amount := owes(anyNumber(random), anyNumber(random), anyNumber(random)), anyNumber(random)
		parts, e := waterfall.Allocate(order, owed, amount)
		if e != api.OK {
			continue
		}
		paid++
		kinds, _ := waterfall.Order(order)
		full := true
		for _, kind := range kinds {
			debt, part := owed.Fees, parts.Fees
			switch kind {
			case api.Interest:
				debt, part = owed.Interest, parts.Interest
			case api.Principal:
				debt, part = owed.Principal, parts.Principal
			}
			if part < 0 || part > debt || part > 0 && !full {
				t.Fatalf("9.2: Allocate(%d, %v, %d) = %v: wrong at %d", order, owed, amount, parts, kind)
			}
			full = full && part == debt
		}
		if parts.Unapplied < 0 || parts.Unapplied > 0 && !full || parts.Recovery != 0 || !addsUp(parts, amount) {
			t.Fatalf("9.2: Allocate(%d, %v, %d) = %v does not come to the amount", order, owed, amount, parts)
		}
	}
	if paid < 10000 {
		t.Errorf("only %d were paid", paid)
	}
}

// addsUp tells whether the parts come to the amount, in numbers without an end.
func addsUp(parts api.Parts, amount int64) bool {
	sum := new(big.Int)
	for _, part := range []int64{parts.Fees, parts.Interest, parts.Principal, parts.Unapplied, parts.Recovery} {
		sum.Add(sum, big.NewInt(part))
	}
	return sum.Cmp(big.NewInt(amount)) == 0
}

// 9.3: all small numbers, a cent at a time, and edges that add up.
func TestRecoverAsTheModel(t *testing.T) {
	for left := range int64(12) {
		var want api.Parts
		for amount := int64(1); amount < 15; amount++ {
			if want.Recovery < left {
				want.Recovery++
			} else {
				want.Unapplied++
			}
			recovers(t, left, amount, want, api.OK)
		}
	}
	random := rand.New(rand.NewSource(93))
	seen := map[api.Errno]int{}
	for range 50000 {
		left, amount := anyNumber(random), anyNumber(random)
		parts, e := waterfall.Recover(left, amount)
		seen[e]++
		switch {
		case left < 0:
			recovers(t, left, amount, api.Parts{}, api.ErrArg)
		case amount < 1:
			recovers(t, left, amount, api.Parts{}, api.ErrAmount)
		case e != api.OK || !addsUp(parts, amount) || parts.Recovery > left || parts.Recovery < left && parts.Unapplied > 0 || min(parts.Recovery, parts.Unapplied) < 0:
			t.Fatalf("9.3: Recover(%d, %d) = %v, %d", left, amount, parts, e)
		}
	}
	if min(seen[api.OK], seen[api.ErrArg], seen[api.ErrAmount]) < 1000 {
		t.Errorf("too few of a kind: %v", seen)
	}
}
