package backdate_test

import (
	"slices"
	"testing"

	"arrears/api"
)

// 23.3: each kind of operation that hangs on what was done earlier, refused where it was taken, or taken where it was refused.
func TestUpsetOfEachKind(t *testing.T) {
	p := example()
	spare, lone := pay(7, 10000), open(7, 10000, 0, 1, 0)
	head := []api.Op{opened(), days(42)}
	for _, c := range []struct {
		o     api.Op // behind the day 738042, on which a cycle opens if 100.00 were not paid ahead of it
		upset bool
	}{
		{pay(7, 11500), false}, {pay(7, 0), false}, {takeBack(7), true}, {refund(7, 1), false},
		{waive(7, 1500), true}, {waive(7, 1501), false}, {promise(7, 500, 14), true}, {promise(7, 500, 15), false},
		{restructure(7, 12, 900), true}, {restructure(7, 0, 900), false}, {days(60), false}, {days(61), false}, {opened(), false}, {open(8, 5, 0, 1, 0), false},
		{api.Op{Kind: api.OpLoan, Loan: 7}, false}, {api.Op{Kind: api.OpTick, Count: 5}, false},
	} {
		if h := append(slices.Clone(head), c.o); c.upset {
			upsets(t, p, h, 738031, spare, 2)
		} else {
			upsets(t, p, h, 738031, spare)
		}
	}
	// A refund of what was paid too much, and what a loan that is closed refuses.
	upsets(t, p, []api.Op{lone, days(1), refund(7, 5), refund(7, 1)}, first, pay(7, 10005), 2)
	upsets(t, p, []api.Op{lone, days(1), pay(7, 1), takeBack(7), takeBack(7)}, first, pay(7, 10000), 3)
	upsets(t, p, []api.Op{lone, days(1), pay(7, 1), takeBack(7), takeBack(7)}, first, pay(7, 9999), 3)
	upsets(t, p, []api.Op{lone, days(1), pay(7, 1), takeBack(7), takeBack(7)}, first, pay(7, 9998))
	// A payment without room.
	upsets(t, p, []api.Op{lone, days(1), pay(7, most), refund(7, most-10000)}, first, pay(7, 1), 2, 3)
	// A payment whose number comes too late.
	upsets(t, p, []api.Op{lone, days(1), traced(7, 5, 8), pay(7, 5), traced(7, 5, 10), traced(7, 5, 9)}, first, traced(7, 5, 9), 2)
	upsets(t, p, []api.Op{lone, days(1), traced(7, 5, 8), pay(7, 5), traced(7, 5, 10), traced(7, 5, 9)}, first, traced(7, 5, 10), 2, 4)
	upsets(t, p, []api.Op{lone, days(1), traced(7, 5, 8), pay(7, 5), traced(7, 5, 10), traced(7, 5, 9)}, first, traced(7, 5, 7))
	// What is waived may be waived once.
	upsets(t, p, append(slices.Clone(head), days(1), waive(7, 1000), waive(7, 500)), 738042, waive(7, 600), 3)
	upsets(t, p, append(slices.Clone(head), days(1), waive(7, 1000), waive(7, 500)), 738042, waive(7, 1100), 3, 4)
	upsets(t, p, append(slices.Clone(head), days(1), waive(7, 1000), waive(7, 501)), 738042, waive(7, 1000), 3)
	upsets(t, p, append(slices.Clone(head), days(1), waive(7, 1000), waive(7, 501), waive(7, 400)), 738042, waive(7, 600), 3, 4, 5)
}

// 23.3: places are those of the list that was handed in: what is left out counts, and a day operation that is divided is one.
func TestUpsetTellsPlaces(t *testing.T) {
	p := example()
	ask := []api.Op{today(), {}, {Kind: -1}, {Kind: 9}, {Kind: 22}}
	h := slices.Concat(ask, []api.Op{opened()}, ask, []api.Op{days(30), pay(8, 5), days(12), days(0)}, ask, []api.Op{waive(7, 100)}, ask, []api.Op{waive(7, 50), days(60), waive(7, 100)}, ask)
	const one, two = 20, 26
	if h[one] != waive(7, 100) || h[two] != waive(7, 50) {
		t.Fatalf("the operations %+v and %+v", h[one], h[two])
	}
	for _, day := range []int{first, first + 1, first + 29, first + 30, first + 31, first + 41} {
		upsets(t, p, h, day, pay(7, 10000), one, two)
	}
	for _, day := range []int{first + 42, first + 43, first + 60, first + 101, first + 102} {
		upsets(t, p, h, day, pay(7, 5))
	}
	// Of the fee, 15.00, what is let go earlier leaves enough for the second alone, for neither, for the first alone, for both.
	h = slices.Concat(ask, []api.Op{opened(), days(42), days(3)}, ask, []api.Op{waive(7, 60), today(), waive(7, 50), days(2)})
	upsets(t, p, h, first+42, waive(7, 1445), 13)
	upsets(t, p, h, first+43, waive(7, 1445), 13)
	upsets(t, p, h, first+43, waive(7, 1451), 13, 15)
	upsets(t, p, h, first+44, waive(7, 1400), 15)
	upsets(t, p, h, first+43, waive(7, 1390))
	upsets(t, p, h, first+45, waive(7, 1390))
}

// 23.3: a day operation is never upset, divided or not; operations of other loans are none either.
func TestUpsetLeavesDaysAndOthersAlone(t *testing.T) {
	other := []api.Op{open(8, 120000, 0, 12, 0), days(42), waive(8, 1500), promise(8, 5, 5), takeBack(8), refund(8, 1), days(60), pay(8, 5), restructure(8, 3, 0), takeBack(8), days(61), days(60)}
	h := append([]api.Op{opened()}, other...)
	for day := first; day <= first+162; day += 3 {
		upsets(t, example(), h, day, pay(7, 50000))
		upsets(t, example(), h, day, pay(7, 500000))
	}
}
