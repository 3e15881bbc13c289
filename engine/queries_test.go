package engine_test

import (
	"slices"
	"testing"

	"arrears/api"
	"arrears/ledger"
	"arrears/loan"
)

// 15.6: kinds that are no queries are refused, operations among them, whatever the other fields are.
func TestAskOfNoKind(t *testing.T) {
	s := begin(t, example())
	s.does(open(7, 120000, 0, 12, api.PlanLevel))
	before := s.e.Save()
	for _, kind := range []int{least, -15, -1, 0, 1, 2, 3, 4, 5, 6, 7, 8, 9, 10, 11, 12, 13, 14, 22, 23, 256 + 15, 1<<32 + 15, most} {
		s.asksNone(api.Op{Kind: kind}, api.ErrKind)
		s.asksNone(api.Op{Kind: kind, Loan: 7, Amount: 100, Rate: 1, Count: 1, Days: 1, Text: "d"}, api.ErrKind)
	}
	if !sameState(s.e.Save(), before) {
		t.Errorf("15.6: a query changes the portfolio")
	}
}

// 15.6: a loan or a plan of a number that no loan has is not told.
func TestAskOfNoLoan(t *testing.T) {
	s := begin(t, example())
	s.does(open(7, 120000, 0, 12, api.PlanLevel))
	for _, number := range []int{least, -7, 0, 6, 8, api.MaxLoan, api.MaxLoan + 1, 7 + 1<<32, most} {
		s.asksNone(queryOf(api.OpLoan, number), api.ErrNoLoan)
		s.asksNone(queryOf(api.OpPlan, number), api.ErrNoLoan)
	}
}

// of is a view as the promise lists it.
func of(v api.View) []int64 {
	nums := make([]int64, 0, 21)
	add := func(list ...int) {
		for _, n := range list {
			nums = append(nums, int64(n))
		}
	}
	add(v.Status, v.Days, v.Bucket)
	nums = append(nums, v.PastDue, v.Fees, v.Interest, v.Principal, v.Unapplied, v.Suspense)
	add(v.Cycles, v.Cures, v.Kept, v.Broken, v.Restructures, v.Promises, v.PromiseDue, v.Deadline, v.NextDue)
	return append(nums, v.LifeFees, v.ChargedOff, v.Recovered)
}

// 15.6: the 21 numbers of a loan, in lives in which each of them is above 0 at some time.
func TestAskLoan(t *testing.T) {
	s := begin(t, with(func(p *api.Policy) { p.NonAccrual = 20; p.LateMin, p.LateMax = 7, 7 }))
	met := make([]bool, 21)
	look := func(number int) {
		t.Helper()
		want := of(loan.Look(s.p, s.loan(number)))
		s.asks(queryOf(api.OpLoan, number), want...)
		o := api.Op{Kind: api.OpLoan, Loan: number, Amount: 1, Rate: 1, Count: 1, Days: 1, Text: "loan"}
		s.asks(o, want...)
		for i, n := range want {
			met[i] = met[i] || n > 0
		}
	}
	steps := []api.Op{
		open(1, 3650000, 1000, 2, api.PlanEqual), days(42), promise(1, 1000, 5), pay(1, 1000), promise(1, 5000, 5), days(6), pay(1, 1900000), days(50),
		promise(1, 8000, 9), days(9), restructure(1, 3, 500), days(60), days(60), days(60), pay(1, 1000), pay(1, 90000000),
	}
	for _, o := range steps {
		s.does(o)
		look(1)
	}
	if slices.Contains(met, false) {
		t.Errorf("a number was never above 0: %v", met)
	}
}

// 15.6: of each row of a plan its due day, interest, principal, and whether it is marked.
func TestAskPlan(t *testing.T) {
	s := begin(t, example())
	s.does(open(1, 3650000, 1000, 2, api.PlanEqual), open(2, 90000, 0, 3, api.PlanLevel))
	s.asks(queryOf(api.OpPlan, 1), 738031, 30417, 1825000, 0, 738062, 15208, 1825000, 0)
	s.asks(queryOf(api.OpPlan, 2), 738031, 0, 30000, 0, 738062, 0, 30000, 0, 738092, 0, 30000, 0)
	s.does(days(42))
	s.asks(queryOf(api.OpPlan, 1), 738031, 30417, 1825000, 1, 738062, 15208, 1825000, 0)
	s.does(days(31))
	s.asks(queryOf(api.OpPlan, 2), 738031, 0, 30000, 1, 738062, 0, 30000, 1, 738092, 0, 30000, 0)
	s.does(restructure(1, 1, 0))
	s.asks(queryOf(api.OpPlan, 1), 738104, 0, 3650000+73000+20000, 0)
}

// 15.6: the books of all loans together; a sum that does not fit is refused.
func TestAskBooks(t *testing.T) {
	s := begin(t, example())
	s.does(open(1, 3650000, 1000, 2, api.PlanEqual), open(2, 90000, 0, 3, api.PlanLevel), days(42), waive(2, 500), pay(1, 100000), pay(2, 200000))
	s.asks(query(api.OpBooks), 300000, 3602000, 0, 0, 109000, 0, 3740000, 42000, 11500, 0, 0, 500)
	var books []api.Book
	for _, l := range s.e.Save().Loans {
		books = append(books, l.Book)
	}
	all, _ := ledger.Total(books)
	for account, got := range s.e.Ask(query(api.OpBooks)).Nums {
		if want, _ := ledger.Balance(all, account); got != want {
			t.Errorf("15.6: the account %d stands at %d, want %d", account, got, want)
		}
	}
	s.does(days(60), days(60), pay(1, 5000))
	// 79 days more were income, up to the loan's non-accrual; what accrued behind them was in suspense, and is no loss.
	s.asks(query(api.OpBooks), 305000, 0, 0, 0, 109000, 0, 3740000, 42000+77961, 21500, 3602000+77961+10000, 5000, 500)
}

// 15.6: cash of two loans may be too great for one number.
func TestAskBooksBeyondRange(t *testing.T) {
	s := begin(t, example())
	s.does(open(1, 1000, 0, 2, api.PlanEqual), open(2, 1000, 0, 2, api.PlanEqual), pay(1, most-1000))
	s.asks(query(api.OpBooks), most-1000, 1000, 0, 0, most-2000, 0, 2000, 0, 0, 0, 0, 0)
	s.does(pay(2, 1000))
	s.asks(query(api.OpBooks), most, 0, 0, 0, most-2000, 0, 2000, 0, 0, 0, 0, 0)
	s.does(pay(2, 1))
	s.asksNone(query(api.OpBooks), api.ErrRange)
	s.does(pay(2, 5000))
	s.asksNone(query(api.OpBooks), api.ErrRange)
	s.does(refund(1, 5001))
	s.asks(query(api.OpBooks), most, 0, 0, 0, most-2000, 0, 2000, 0, 0, 0, 0, 0)
}

// 15.6: loans by the class of their days past due, with their principal; those that are over are counted behind.
func TestAskAging(t *testing.T) {
	s := begin(t, with(func(p *api.Policy) { p.ChargeOff = 100 }))
	// Opened over 130 days, they are of all classes in the end.
	at := 0
	for _, start := range []int{0, 10, 11, 40, 41, 70, 71, 99, 100, 130} {
		if start > at {
			s.does(days(start - at))
			at = start
		}
		s.does(open(1+start, 10000+int64(start), 0, 2, api.PlanBalloon), open(500+start, 7, 0, 1, api.PlanEqual))
		if start%20 == 10 {
			s.does(pay(500+start, 8))
		}
	}
	s.does(days(1))
	var counts, sums [5]int64
	var closed, chargedOff int64
	for _, l := range s.e.Save().Loans {
		v := loan.Look(s.p, l)
		switch v.Status {
		case api.Closed:
			closed++
		case api.ChargedOff:
			chargedOff++
		default:
			counts[v.Bucket]++
			sums[v.Bucket] += v.Principal
		}
	}
	var want []int64
	for i := range counts {
		want = append(want, counts[i], sums[i])
	}
	want = append(want, closed, chargedOff)
	s.asks(query(api.OpAging), want...)
	if slices.Contains(counts[:], 0) || closed == 0 {
		t.Errorf("a class is empty: %v, %d, %d", counts, closed, chargedOff)
	}
	s.does(days(60), days(60), days(60))
	s.asks(query(api.OpAging), 0, 0, 0, 0, 0, 0, 0, 0, 0, 0, closed, 20-closed)
}

// 15.6, 15.7, 15.8: notices are counted, marked once, and those that are not marked told by rising ID.
func TestAcknowledge(t *testing.T) {
	s := begin(t, example())
	for i := range 5 {
		s.does(open(1+i, 1000, 0, 1, api.PlanEqual), pay(1+i, 1000))
	}
	all := s.e.Save().Notices
	s.asks(query(api.OpNotices), 5, 0)
	s.owes(all...)
	for _, id := range []int{least, -1, 0, 6, 7, 1 + 1<<32, most} {
		s.acknowledges(id, false)
	}
	if !slices.Equal(s.e.Save().Notices, all) {
		t.Errorf("15.7: an Acknowledge that is false changes something")
	}
	for i, id := range []int{3, 5, 1, 4, 2} {
		s.acknowledges(id, true)
		s.acknowledges(id, false)
		all[id-1].Acked = true
		if got := s.e.Save().Notices; !slices.Equal(got, all) {
			t.Errorf("15.7: the notices are %+v, want %+v", got, all)
		}
		s.owes(slices.DeleteFunc(slices.Clone(all), func(n api.Notice) bool { return n.Acked })...)
		s.asks(query(api.OpNotices), 5, int64(i+1))
	}
	// New notices go on behind the marked ones, and those stay marked.
	s.does(open(9, 1000, 0, 1, api.PlanEqual), pay(9, 1000))
	s.asks(query(api.OpNotices), 6, 5)
	s.owes(api.Notice{ID: 6, Loan: 9, Kind: api.NoticePaidOff, Day: first})
	s.acknowledges(6, true)
	s.owes()
}

// 15.7: what is acknowledged is kept in Save, and counts for nothing in the loans.
func TestAcknowledgedAndSaved(t *testing.T) {
	s := begin(t, example())
	s.does(open(7, 120000, 0, 12, api.PlanLevel), days(42))
	before, timers := s.e.Save(), s.e.Timers()
	s.acknowledges(1, true)
	before.Notices[0].Acked = true
	if !sameState(s.e.Save(), before) || !slices.Equal(s.e.Timers(), timers) {
		t.Errorf("15.7: behind Acknowledge(1) the portfolio is %+v, want %+v", s.e.Save(), before)
	}
	s = loaded(t, s.p, s.e.Save())
	s.acknowledges(1, false)
	s.acknowledges(2, true)
	s.asks(query(api.OpNotices), 2, 2)
}
