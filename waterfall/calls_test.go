package waterfall_test

import (
	"testing"

	"arrears/api"
	"arrears/waterfall"
)

// turns are the six orders by their first letters, as the chapter's table has them.
var turns = []string{"FIP", "FPI", "IFP", "IPF", "PFI", "PIF"}

var accounts = map[byte]int{'F': 3, 'I': 2, 'P': 1}

// strange are numbers that are no order.
var strange = []int{-1, 6, -2, 7, -6, 12, 256, 1 << 32, -1 << 32, 1<<32 + 3, most, least}

// refused are amounts that are none.
var refused = []int64{0, -1, -5, -most, least}

// 9.1: all six orders, and no other.
func TestOrders(t *testing.T) {
	for order, turn := range turns {
		orders(t, order, [3]int{accounts[turn[0]], accounts[turn[1]], accounts[turn[2]]}, true)
	}
	for _, order := range strange {
		orders(t, order, [3]int{}, false)
	}
}

// 9.1: an answer may be written over, and the next is as it was.
func TestOrdersStay(t *testing.T) {
	for order := range turns {
		first, _ := waterfall.Order(order)
		kept := first
		first[0], first[1], first[2] = 7, 8, 9
		orders(t, order, kept, true)
	}
}

// 9.2: an order that is none of the six is told ahead of the amount, whatever is owed.
func TestAllocateInNoOrder(t *testing.T) {
	for _, order := range strange {
		for _, amount := range append([]int64{1, 120, most}, refused...) {
			for _, owed := range []api.Owed{owes(0, 0, 0), owes(100, 50, 1000), owes(-1, -1, -1), owes(most, most, most)} {
				refuses(t, order, owed, amount, api.ErrArg)
			}
		}
	}
}

// 9.2: each kind of what is owed may be 0 but not below, which is told ahead of the amount.
func TestAllocateOwedBelowZero(t *testing.T) {
	for order := range turns {
		for _, below := range []int64{-1, -100, -most, least} {
			for _, other := range []int64{0, 1, 100, most} {
				for _, owed := range []api.Owed{owes(below, other, other), owes(other, below, other), owes(other, other, below)} {
					for _, amount := range append([]int64{1, 120, most}, refused...) {
						refuses(t, order, owed, amount, api.ErrArg)
					}
				}
			}
		}
		for _, owed := range []api.Owed{owes(0, 5, 5), owes(5, 0, 5), owes(5, 5, 0)} {
			allocates(t, order, owed, 11, parted(owed.Fees, owed.Interest, owed.Principal, 1, 0))
		}
	}
}

// 9.2: an amount is at least 1.
func TestAllocateOfNoAmount(t *testing.T) {
	for order := range turns {
		for _, owed := range []api.Owed{owes(0, 0, 0), owes(100, 50, 1000), owes(most, most, most)} {
			for _, amount := range refused {
				refuses(t, order, owed, amount, api.ErrAmount)
			}
		}
		allocates(t, order, owes(0, 0, 0), 1, parted(0, 0, 0, 1, 0))
		allocates(t, order, owes(0, 0, 0), most, parted(0, 0, 0, most, 0))
	}
}

// 9.2: at what just pays a kind in full, at a cent less and at a cent more, in each of the orders.
func TestAllocateAtTheEdges(t *testing.T) {
	debts := map[byte]int64{'F': 100, 'I': 50, 'P': 1000}
	for order, turn := range turns {
		first, then, last := debts[turn[0]], debts[turn[1]], debts[turn[2]]
		for _, c := range []struct {
			amount int64
			paid   [4]int64 // of the first, the one behind it, the last, and what is left
		}{
			{1, [4]int64{1}},
			{first - 1, [4]int64{first - 1}},
			{first, [4]int64{first}},
			{first + 1, [4]int64{first, 1}},
			{first + then - 1, [4]int64{first, then - 1}},
			{first + then, [4]int64{first, then}},
			{first + then + 1, [4]int64{first, then, 1}},
			{first + then + last - 1, [4]int64{first, then, last - 1}},
			{first + then + last, [4]int64{first, then, last}},
			{first + then + last + 1, [4]int64{first, then, last, 1}},
			{most, [4]int64{first, then, last, most - 1150}},
		} {
			allocates(t, order, owes(100, 50, 1000), c.amount, partsOf(turn, c.paid))
		}
	}
}

// partsOf lays what the kinds of a turn got, and what was left, into parts.
func partsOf(turn string, paid [4]int64) api.Parts {
	parts := api.Parts{Unapplied: paid[3]}
	for i, letter := range []byte(turn) {
		switch letter {
		case 'F':
			parts.Fees = paid[i]
		case 'I':
			parts.Interest = paid[i]
		case 'P':
			parts.Principal = paid[i]
		}
	}
	return parts
}

// 9.2: what is owed in all may be beyond an int64.
func TestAllocateOwedBeyond(t *testing.T) {
	for order, turn := range turns {
		for _, amount := range []int64{1, 2, most - 1, most} {
			allocates(t, order, owes(most, most, most), amount, partsOf(turn, [4]int64{amount}))
		}
		var half int64 = 1 << 62
		allocates(t, order, owes(half, half, half), half, partsOf(turn, [4]int64{half}))
		allocates(t, order, owes(half, half, half), half+1, partsOf(turn, [4]int64{half, 1}))
		allocates(t, order, owes(half, half, half), most, partsOf(turn, [4]int64{half, half - 1}))
		allocates(t, order, owes(half-1, half-1, half-1), most, partsOf(turn, [4]int64{half - 1, half - 1, 1}))
	}
}

// 9.3: left below, at and above the amount; the rest of the amount is unapplied.
func TestRecover(t *testing.T) {
	for _, amount := range []int64{1, 2, 100, most - 1, most} {
		recovers(t, 0, amount, parted(0, 0, 0, amount, 0), api.OK)
		recovers(t, 1, amount, parted(0, 0, 0, amount-1, 1), api.OK)
		recovers(t, amount-1, amount, parted(0, 0, 0, 1, amount-1), api.OK)
		recovers(t, amount, amount, parted(0, 0, 0, 0, amount), api.OK)
		if amount < most {
			recovers(t, amount+1, amount, parted(0, 0, 0, 0, amount), api.OK)
		}
		recovers(t, most, amount, parted(0, 0, 0, 0, amount), api.OK)
	}
}

// 9.3: what is left is looked at ahead of the amount.
func TestRecoverRefuses(t *testing.T) {
	for _, left := range []int64{-1, -30, -most, least} {
		for _, amount := range append([]int64{1, 100, most}, refused...) {
			recovers(t, left, amount, api.Parts{}, api.ErrArg)
		}
	}
	for _, left := range []int64{0, 1, 30, most} {
		for _, amount := range refused {
			recovers(t, left, amount, api.Parts{}, api.ErrAmount)
		}
	}
}

// 9.4, 9.5: every mixture of parts below 0, at 0 and above it, in every field.
func TestEntries(t *testing.T) {
	sizes := []int64{0, -1, least, 1, most, 123}
	var choice [5]int
	for {
		var part [5]int64
		var want []api.Entry
		for field, account := range []int{3, 2, 1, 4, 10} {
			part[field] = sizes[choice[field]]
			if choice[field] > 2 {
				want = append(want, from(0, account, part[field]))
			}
		}
		moves(t, parted(part[0], part[1], part[2], part[3], part[4]), want...)
		if !next(&choice, len(sizes)) {
			return
		}
	}
}

// next counts on, a place behind the other, and tells whether there is one more.
func next(choice *[5]int, limit int) bool {
	for i := range choice {
		if choice[i]++; choice[i] < limit {
			return true
		}
		choice[i] = 0
	}
	return false
}

// 9.4, 9.5: of nothing there are no entries.
func TestEntriesOfNothing(t *testing.T) {
	moves(t, api.Parts{})
	moves(t, parted(-1, -1, -1, -1, -1))
	moves(t, parted(least, least, least, least, least))
}
