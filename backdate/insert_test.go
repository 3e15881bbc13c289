package backdate_test

import (
	"slices"
	"testing"

	"arrears/api"
	"arrears/backdate"
)

// 23.1: the operation stands at the end of its day, behind all that was applied on it; a day operation that goes across that end is divided.
func TestInsertAtEachDay(t *testing.T) {
	p, x := example(), pay(7, 77)
	h := []api.Op{opened(), pay(7, 1), days(3), pay(7, 2), waive(7, 5), days(1), days(2), pay(7, 3), pay(7, 0)}
	for day, want := range [][]api.Op{
		{h[0], h[1], x, h[2], h[3], h[4], h[5], h[6], h[7], h[8]},
		{h[0], h[1], days(1), x, days(2), h[3], h[4], h[5], h[6], h[7], h[8]},
		{h[0], h[1], days(2), x, days(1), h[3], h[4], h[5], h[6], h[7], h[8]},
		{h[0], h[1], h[2], h[3], h[4], x, h[5], h[6], h[7], h[8]},
		{h[0], h[1], h[2], h[3], h[4], h[5], x, h[6], h[7], h[8]},
		{h[0], h[1], h[2], h[3], h[4], h[5], days(1), x, days(1), h[7], h[8]},
		{h[0], h[1], h[2], h[3], h[4], h[5], h[6], h[7], h[8], x},
	} {
		inserts(t, p, h, first+day, x, want...)
	}
	refuses(t, p, h, first-1, x, api.ErrDate)
	refuses(t, p, h, first+7, x, api.ErrDate)
}

// 23.1: the longest day operation is divided at each of its days.
func TestInsertDividesTheLongest(t *testing.T) {
	h := []api.Op{opened(), days(api.MaxSpan)}
	for part := 1; part < api.MaxSpan; part++ {
		inserts(t, example(), h, first+part, pay(7, 5), opened(), days(part), pay(7, 5), days(api.MaxSpan-part))
	}
	inserts(t, example(), h, first, pay(7, 5), opened(), pay(7, 5), days(api.MaxSpan))
	inserts(t, example(), h, first+api.MaxSpan, pay(7, 5), opened(), days(api.MaxSpan), pay(7, 5))
}

// 23.1: a day operation that is refused goes across no day's end, whatever its days.
func TestInsertAmongRefusedDays(t *testing.T) {
	odd := []api.Op{days(0), days(-1), days(61), days(100), days(most), days(least)}
	h := slices.Concat([]api.Op{opened()}, odd, []api.Op{days(2)}, odd)
	inserts(t, example(), h, first, pay(7, 5), slices.Concat([]api.Op{opened()}, odd, []api.Op{pay(7, 5), days(2)}, odd)...)
	inserts(t, example(), h, first+1, pay(7, 5), slices.Concat([]api.Op{opened()}, odd, []api.Op{days(1), pay(7, 5), days(1)}, odd)...)
	inserts(t, example(), h, first+2, pay(7, 5), slices.Concat(h, []api.Op{pay(7, 5)})...)
	for _, day := range []int{first + 3, first + 61, first + 102, api.MaxDay, most} {
		refuses(t, example(), h, day, pay(7, 5), api.ErrDate)
	}
}

// 23.1: nothing goes across the end of the last day that there is.
func TestInsertAtTheLastDay(t *testing.T) {
	p := with(func(p *api.Policy) { p.FirstDay = api.MaxDay - 40 })
	x, lone := pay(7, 5), open(7, 5000, 0, 1, 0)
	h := []api.Op{lone, days(41), days(40), days(1), pay(7, 6), days(60)}
	inserts(t, p, h, api.MaxDay-40, x, lone, days(41), x, days(40), days(1), pay(7, 6), days(60))
	inserts(t, p, h, api.MaxDay-1, x, lone, days(41), days(39), x, days(1), days(1), pay(7, 6), days(60))
	inserts(t, p, h, api.MaxDay, x, lone, days(41), days(40), days(1), pay(7, 6), days(60), x)
	refuses(t, p, h, api.MaxDay+1, x, api.ErrDate)
	refuses(t, p, h, api.MaxDay-41, x, api.ErrDate)
}

// 23.1: from the first day that there is on.
func TestInsertAtTheFirstDay(t *testing.T) {
	p := with(func(p *api.Policy) { p.FirstDay = 1 })
	inserts(t, p, []api.Op{opened(), days(1)}, 1, pay(7, 5), opened(), pay(7, 5), days(1))
	refuses(t, p, []api.Op{opened(), days(1)}, 0, pay(7, 5), api.ErrDate)
	refuses(t, p, []api.Op{opened(), days(1)}, -1, pay(7, 5), api.ErrDate)
}

// 23.1: what is no operation of a history is left out; what is refused stays, in its place.
func TestInsertKeepsTheRefused(t *testing.T) {
	var odd []api.Op
	for _, kind := range []int{least, -1, 0, 9, 10, 11, 12, 13, 14, 15, 16, 17, 18, 19, 20, 21, 22, 256 + 2, most} {
		odd = append(odd, api.Op{Kind: kind, Loan: 7, Amount: 5, Rate: 5, Count: 5, Days: 5, Text: "x"})
	}
	bad := []api.Op{
		opened(), open(0, 5, 0, 1, 0), pay(8, 1), pay(7, 0), pay(7, -5), traced(7, 5, -1), takeBack(8), refund(7, 1),
		waive(7, 1), promise(7, 1, 1), restructure(7, 12, 0), days(61),
	}
	h := slices.Concat(odd, []api.Op{pay(7, 1), opened()}, odd, bad, odd, []api.Op{days(4)}, odd, bad, odd, []api.Op{days(2)}, bad, odd)
	head := slices.Concat([]api.Op{pay(7, 1), opened()}, bad)
	x := pay(7, 9)
	for day, want := range [][]api.Op{
		slices.Concat(head, []api.Op{x, days(4)}, bad, []api.Op{days(2)}, bad),
		slices.Concat(head, []api.Op{days(1), x, days(3)}, bad, []api.Op{days(2)}, bad),
		slices.Concat(head, []api.Op{days(2), x, days(2)}, bad, []api.Op{days(2)}, bad),
		slices.Concat(head, []api.Op{days(3), x, days(1)}, bad, []api.Op{days(2)}, bad),
		slices.Concat(head, []api.Op{days(4)}, bad, []api.Op{x, days(2)}, bad),
		slices.Concat(head, []api.Op{days(4)}, bad, []api.Op{days(1), x, days(1)}, bad),
		slices.Concat(head, []api.Op{days(4)}, bad, []api.Op{days(2)}, bad, []api.Op{x}),
	} {
		inserts(t, example(), h, first+day, x, want...)
	}
}

// 23.1: operations stay as they were handed in, whatever stands in fields that they do not use; only in the parts of a day operation that is divided Days alone is set.
func TestInsertKeepsUnusedFields(t *testing.T) {
	day := func(n int) api.Op {
		return api.Op{Kind: api.OpDay, Days: n, Loan: 9, Amount: -9, Rate: 9, Count: -9, Text: "x"}
	}
	x := api.Op{Kind: api.OpPay, Loan: 7, Amount: 5, Rate: -9, Days: -9, Text: "y"}
	back := api.Op{Kind: api.OpReturn, Loan: 7, Amount: -5, Rate: -9, Count: -9, Days: -9, Text: "z"}
	h := []api.Op{opened(), day(5), back, day(5), day(61)}
	inserts(t, example(), h, first, x, opened(), x, day(5), back, day(5), day(61))
	inserts(t, example(), h, first+2, x, opened(), days(2), x, days(3), back, day(5), day(61))
	inserts(t, example(), h, first+5, x, opened(), day(5), back, x, day(5), day(61))
	inserts(t, example(), h, first+9, x, opened(), day(5), back, days(4), x, days(1), day(61))
	inserts(t, example(), h, first+10, x, opened(), day(5), back, day(5), day(61), x)

	fee := api.Op{Kind: api.OpWaive, Loan: 7, Amount: 5, Rate: -9, Count: -9, Days: -9, Text: "y"}
	inserts(t, example(), history()[:3], 738042, fee, opened(), days(42), fee)
}

// 23.1: the errors, in their order.
func TestInsertRefusesInOrder(t *testing.T) {
	for _, p := range refused() {
		refuses(t, p, history(), 0, api.Op{}, api.ErrPolicy)
		refuses(t, p, nil, least, days(1), api.ErrPolicy)
		refuses(t, p, history(), 738031, pay(7, 10000), api.ErrPolicy)
	}
	for _, kind := range []int{least, -2, -1, 0, 1, 3, 4, 6, 7, 8, 9, 10, 14, 15, 16, 21, 22, 256 + 2, 1<<32 + 2, most} {
		o := api.Op{Kind: kind, Loan: 7, Amount: 5, Count: 3, Days: 5}
		for _, day := range []int{least, first - 1, first, 738031, 738042, 738043, most} {
			refuses(t, example(), history(), day, o, api.ErrKind)
		}
	}
	for _, day := range []int{least, least + 1, -1, 0, 1, first - 1, 738043, api.MaxDay, api.MaxDay + 1, most - 1, most} {
		for _, o := range []api.Op{pay(7, 5), pay(7, 0), pay(8, 5), waive(7, 5), traced(7, 5, -1)} {
			refuses(t, example(), history(), day, o, api.ErrDate)
		}
	}
}

// 23.1: the error of the operation is the one that it is answered at the end of that day, whatever comes behind.
func TestInsertRefusesAsOnThatDay(t *testing.T) {
	h := []api.Op{
		days(3), opened(), days(2), traced(7, 100, 5), days(40), waive(7, 200),
		days(1), pay(7, 130000), days(1), pay(7, most-130100), days(1),
	}
	for _, c := range []struct {
		day int
		o   api.Op
		why api.Errno
	}{
		{0, pay(7, 5), api.ErrNoLoan}, {2, pay(7, 5), api.ErrNoLoan}, {2, pay(7, 0), api.ErrNoLoan}, {2, traced(7, 5, -1), api.ErrNoLoan}, {2, waive(7, 0), api.ErrNoLoan},
		{3, pay(7, 5), api.OK}, {3, traced(7, 5, 5), api.OK}, {4, traced(7, 5, 1), api.OK}, {3, pay(8, 5), api.ErrNoLoan}, {3, pay(-1, 5), api.ErrNoLoan},
		{4, traced(7, 5, -1), api.ErrArg}, {4, traced(7, 0, -1), api.ErrArg}, {4, traced(7, 5, least), api.ErrArg},
		{5, traced(7, 5, 5), api.ErrExists}, {5, traced(7, 0, 1), api.ErrExists}, {47, traced(7, 5, 5), api.ErrExists}, {5, traced(7, 5, 6), api.OK}, {5, traced(7, 5, most), api.OK},
		{4, pay(7, 0), api.ErrAmount}, {4, pay(7, least), api.ErrAmount}, {4, waive(7, 0), api.ErrAmount}, {4, waive(7, -1), api.ErrAmount},
		// On 738045 the cycle opens, with a fee of 15.00, of which 2.00 are waived on that day, and the rest paid on the next.
		{44, waive(7, 1), api.ErrFunds}, {45, waive(7, 1300), api.OK}, {45, waive(7, 1301), api.ErrFunds}, {46, waive(7, 1), api.ErrClosed}, {48, waive(7, 1), api.ErrClosed},
		{45, pay(7, most-100), api.OK}, {45, pay(7, most-99), api.ErrRange}, {46, pay(7, most-130100), api.OK}, {46, pay(7, most-130099), api.ErrRange}, {47, pay(7, 1), api.ErrRange}, {48, pay(7, most), api.ErrRange},
	} {
		if c.why != api.OK {
			refuses(t, example(), h, first+c.day, c.o, c.why)
		} else if _, why := backdate.Insert(example(), h, first+c.day, c.o); why != api.OK {
			t.Errorf("23.1: Insert of %+v on day %d = %d, want OK", c.o, c.day, why)
		}
	}
}

// 23.1: a history may be empty, or have nothing but what is left out or refused: it has the end of its first day.
func TestInsertIntoNothing(t *testing.T) {
	for _, h := range [][]api.Op{nil, {}, {today()}, {days(0), days(61), today(), pay(7, 1)}} {
		refuses(t, example(), h, first, pay(7, 5), api.ErrNoLoan)
		refuses(t, example(), h, first+1, pay(7, 5), api.ErrDate)
		refuses(t, example(), h, first-1, pay(7, 5), api.ErrDate)
	}
	inserts(t, example(), []api.Op{opened()}, first, pay(7, 5), opened(), pay(7, 5))
}
