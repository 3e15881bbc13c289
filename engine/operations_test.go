package engine_test

import (
	"slices"
	"testing"

	"arrears/api"
	"arrears/ledger"
	"arrears/loan"
)

// 15.5: kinds that are no operations are refused, queries among them, whatever the other fields are.
func TestApplyOfNoKind(t *testing.T) {
	s := begin(t, example())
	s.does(open(7, 120000, 0, 12, api.PlanLevel))
	for _, kind := range []int{least, -8, -1, 0, 9, 10, 11, 12, 13, 14, 15, 16, 17, 18, 19, 20, 21, 22, 256 + 8, 1<<32 + 2, most} {
		s.fails(api.ErrKind, api.Op{Kind: kind}, api.Op{Kind: kind, Loan: 7, Amount: 100, Rate: 1, Count: 1, Days: 1, Text: "d"})
	}
}

// 15.5: an opening's refusals, in their order.
func TestOpenRefused(t *testing.T) {
	s := begin(t, example())
	s.does(open(7, 120000, 0, 12, api.PlanLevel))
	for _, number := range []int{least, -1, 0, api.MaxLoan + 1, most} {
		s.fails(api.ErrArg, open(number, 120000, 0, 12, api.PlanLevel), open(number, 0, -1, 0, 9))
	}
	s.fails(api.ErrExists, open(7, 120000, 0, 12, api.PlanLevel), open(7, 0, -1, 0, 9))
	for _, bad := range []api.Op{
		open(8, 0, 0, 12, 0), open(8, -1, 0, 12, 0), open(8, api.MaxPrincipal+1, 0, 12, 0), open(8, 1000, -1, 12, 0),
		open(8, 1000, api.MaxRate+1, 12, 0), open(8, 1000, 0, 0, 0), open(8, 1000, 0, api.MaxTerm+1, 0), open(8, 1000, 0, 12, -1), open(8, 1000, 0, 12, 3),
	} {
		s.fails(api.ErrTerms, bad)
	}
	for i := range 31 {
		s.does(open(1000-i, 1000, 0, 2, api.PlanEqual))
	}
	s.fails(api.ErrCrowd, open(8, 1000, 0, 2, api.PlanEqual), open(8, 0, -1, 0, 9))
	s.fails(api.ErrExists, open(7, 1000, 0, 2, api.PlanEqual), open(1000, 1000, 0, 2, api.PlanEqual))
	s.fails(api.ErrArg, open(0, 1000, 0, 2, api.PlanEqual))
	s.asks(query(api.OpToday), first, 32)
}

// 15.5: closed and charged-off loans stay, and count among the most that there may be.
func TestCrowdWithLoansThatAreOver(t *testing.T) {
	s := begin(t, example())
	for i := range 32 {
		s.does(open(1+i, 1000, 0, 2, api.PlanEqual), pay(1+i, 1000))
	}
	s.fails(api.ErrCrowd, open(33, 1000, 0, 2, api.PlanEqual))
	s.fails(api.ErrExists, open(32, 1000, 0, 2, api.PlanEqual))
}

// 15.5: a plan that has no room ahead of the calendar's end is refused as loan.Open refuses it.
func TestOpenAtTheEnd(t *testing.T) {
	s := begin(t, with(func(p *api.Policy) { p.FirstDay = api.MaxDay - 31 }))
	s.goes(open(1, 1000, 0, 1, api.PlanEqual), 1, api.MaxDay-1, 1000)
	s.fails(api.ErrDate, open(2, 1000, 0, 2, api.PlanEqual))
}

// 15.5: an opening's terms are the operation's, with today and the policy's rule; the numbers are of the plan.
func TestOpenTaken(t *testing.T) {
	for rule := range 4 {
		p := with(func(p *api.Policy) { p.Rule = rule; p.Holidays = []int{738040, 738041, 738071} })
		s := begin(t, p)
		number := 0
		for ahead := range 12 {
			for kind := range 3 {
				number++
				if number > 32 {
					break
				}
				o := open(number, int64(100000+number), int64(100*number), 2+number, kind)
				o.Text = "not asked"
				terms := api.Terms{Kind: kind, Principal: o.Amount, Rate: o.Rate, Count: o.Count, Start: first + ahead, Rule: rule}
				want := loan.Open(p, number, terms)
				row := want.Loan.Plan[0]
				s.goes(o, int64(len(want.Loan.Plan)), int64(row.Due), row.Interest+row.Principal)
				if got := s.loan(number); !sameLoan(got, want.Loan) {
					t.Errorf("15.5: the loan is %+v, want %+v", got, want.Loan)
				}
			}
			s.does(days(1))
		}
	}
}

// 15.5: the operations on one loan look for it ahead of all else.
func TestNoLoan(t *testing.T) {
	s := begin(t, example())
	ofAll := func(number int) []api.Op {
		return []api.Op{
			pay(number, 100), pay(number, 0), traced(number, 100, -1), traced(number, 0, 5), giveBack(number), refund(number, 1), refund(number, 0),
			waive(number, 1), waive(number, 0), promise(number, 100, 1), promise(number, 0, 0), restructure(number, 2, 0), restructure(number, 0, -1),
		}
	}
	for _, number := range []int{least, -1, 0, 1, 7, 8, api.MaxLoan, api.MaxLoan + 1, most} {
		s.fails(api.ErrNoLoan, ofAll(number)...)
	}
	s.does(open(7, 120000, 0, 12, api.PlanLevel))
	for _, number := range []int{-7, 6, 8, 7 + 1<<32} {
		s.fails(api.ErrNoLoan, ofAll(number)...)
	}
}

// 15.5: a payment's numbers are its parts and the status; its trace number is looked at ahead of the amount.
func TestPay(t *testing.T) {
	s := begin(t, example())
	s.does(open(1, 3650000, 1000, 2, api.PlanEqual), open(2, 120000, 0, 12, api.PlanLevel), days(42))
	s.goes(pay(1, 100000), 10000, 42000, 48000, 0, 0, api.Delinquent)
	s.fails(api.ErrAmount, pay(1, 0), pay(1, -1), pay(1, least), traced(1, 0, 9))
	s.fails(api.ErrArg, traced(1, 100, -1), traced(1, 0, -1), traced(1, 100, least))
	s.goes(traced(1, 1, 9), 0, 0, 1, 0, 0, api.Delinquent)
	s.fails(api.ErrExists, traced(1, 1, 9), traced(1, 1, 8), traced(1, 1, 1), traced(1, 0, 9))
	s.fails(api.ErrArg, traced(1, 1, -9))
	s.goes(pay(1, 2), 0, 0, 2, 0, 0, api.Delinquent)
	s.goes(traced(2, 11500, 9), 1500, 0, 10000, 0, 0, api.Cured)
	s.goes(traced(1, 3, most), 0, 0, 3, 0, 0, api.Delinquent)
	s.fails(api.ErrExists, traced(1, 3, most), traced(1, 3, most-1))
	if a, b := s.loan(1).Trace, s.loan(2).Trace; a != most || b != 9 {
		t.Errorf("15.5: the traces are %d and %d", a, b)
	}
	s.goes(pay(2, 110001), 0, 0, 110000, 1, 0, api.Closed)
	s.goes(traced(2, 5, 10), 0, 0, 0, 5, 0, api.Closed)
	s.fails(api.ErrExists, traced(2, 5, 10), traced(2, 5, 9))
	s.does(days(60), days(60))
	s.goes(pay(1, 4), 0, 0, 0, 0, 4, api.ChargedOff)
}

// 15.5: a payment that is refused leaves no trace: the same may come again, and is taken once it can be.
func TestTraceOfARefusedPayment(t *testing.T) {
	s := begin(t, example())
	s.does(open(7, 1000, 0, 2, api.PlanEqual), pay(7, most))
	s.fails(api.ErrRange, traced(7, 1, 3))
	s.fails(api.ErrAmount, traced(7, 0, 3))
	if got := s.loan(7).Trace; got != 0 {
		t.Errorf("15.5: the trace of a payment that was refused is %d", got)
	}
	s.goes(refund(7, 1), most-1001)
	s.goes(traced(7, 1, 3), 0, 0, 0, 1, 0, api.Closed)
	s.fails(api.ErrExists, traced(7, 1, 3))
}

// 15.5: what was taken back is told as one sum, with the status then.
func TestReturn(t *testing.T) {
	s := begin(t, example())
	s.does(open(1, 3650000, 1000, 2, api.PlanEqual))
	s.fails(api.ErrNoPay, giveBack(1))
	s.does(days(42), traced(1, 100000, 4))
	s.goes(giveBack(1), 100000, api.Delinquent)
	s.fails(api.ErrNoPay, giveBack(1))
	s.fails(api.ErrExists, traced(1, 100000, 4))
	s.does(pay(1, 1900000))
	s.goes(giveBack(1), 1900000, api.Cured)
	s.does(pay(1, 4000000))
	s.fails(api.ErrClosed, giveBack(1))
}

// 15.5: a refund tells what is unapplied then.
func TestRefund(t *testing.T) {
	s := begin(t, example())
	s.does(open(1, 1000, 0, 2, api.PlanEqual))
	s.fails(api.ErrAmount, refund(1, 0), refund(1, -1))
	s.fails(api.ErrFunds, refund(1, 1), refund(1, most))
	s.does(pay(1, 1500))
	s.fails(api.ErrFunds, refund(1, 501))
	s.goes(refund(1, 200), 300)
	s.goes(refund(1, 300), 0)
	s.fails(api.ErrFunds, refund(1, 1))
}

// 15.5: a waiver tells what is left of the fees, and the status then.
func TestWaive(t *testing.T) {
	s := begin(t, with(func(p *api.Policy) { p.Order = 5 }))
	s.does(open(1, 1000, 0, 1, api.PlanEqual))
	s.fails(api.ErrAmount, waive(1, 0), waive(1, -1))
	s.fails(api.ErrFunds, waive(1, 1))
	s.does(days(42))
	s.goes(waive(1, 400), 1100, api.Delinquent)
	s.fails(api.ErrFunds, waive(1, 1101))
	s.does(pay(1, 1000))
	s.goes(waive(1, 1100), 0, api.Closed)
	s.fails(api.ErrClosed, waive(1, 1))
}

// 15.5: a promise tells when it is due, and the deadline that it has moved.
func TestPromise(t *testing.T) {
	s := begin(t, example())
	s.does(open(1, 3650000, 1000, 2, api.PlanEqual))
	s.fails(api.ErrNotOpen, promise(1, 1, 1))
	s.does(days(42))
	s.fails(api.ErrArg, promise(1, 1, 0), promise(1, 1, 15), promise(1, 0, 15))
	s.fails(api.ErrAmount, promise(1, 0, 14))
	s.goes(promise(1, 500000, 14), 738056, 738176)
	s.fails(api.ErrActive, promise(1, 1, 1))
	s.asks(query(api.OpTimers), 738057, 1, 1, 738073, 1, 5, 738121, 1, 3, 738176, 1, 4)
	s.goes(days(15), 738057, 1)
	s.goes(promise(1, 1, 1), 738058, 738177)
}

// 15.5: a restructuring tells the new principal, and of the new plan what an opening tells.
func TestRestructure(t *testing.T) {
	s := begin(t, example())
	s.does(open(1, 3650000, 1000, 2, api.PlanEqual))
	s.fails(api.ErrNotOpen, restructure(1, 4, 0))
	s.does(days(42))
	s.fails(api.ErrTerms, restructure(1, 0, 0), restructure(1, api.MaxTerm+1, 0), restructure(1, 4, -1), restructure(1, 4, api.MaxRate+1))
	s.goes(restructure(1, 4, 0), 3702000, 4, 738072, 925500)
	s.asks(query(api.OpTimers), 738073, 1, 2)
	notices := s.e.Save().Notices
	if want := (api.Notice{ID: 3, Loan: 1, Kind: api.NoticeRestructured, Day: 738042, Amount: 3702000}); !slices.Contains(notices, want) {
		t.Errorf("15.5: a restructuring makes no notice %+v: %+v", want, notices)
	}
	s.does(days(60))
	s.goes(restructure(1, 3, 1200), 3712000, 3, 738132, 3712000/3+1+37120)
	s.does(days(60))
	s.fails(api.ErrBudget, restructure(1, 4, 0))
}

// 15.5: the numbers of all operations on one loan are those of chapter 14's answers, and what a kind does not use counts for nothing.
func TestFieldsThatCountForNothing(t *testing.T) {
	s := begin(t, example())
	s.does(open(1, 3650000, 1000, 2, api.PlanEqual), days(42), pay(1, 20000))
	state := s.e.Save()
	for _, o := range []api.Op{
		open(2, 3000, 100, 3, 2), pay(1, 50), giveBack(1), waive(1, 1), promise(1, 10, 3), restructure(1, 5, 10), days(9),
		refund(1, 1), promise(1, 1, 15), days(61), open(1, 1, 1, 1, 1),
	} {
		plain, strange := loaded(t, example(), state), loaded(t, example(), state)
		other := o
		other.Text = "what"
		// A payment's count is its trace; the other kinds that have one use it themselves.
		switch o.Kind {
		case api.OpPay:
			other.Rate, other.Days = -1, -1
		case api.OpReturn:
			other.Amount, other.Rate, other.Count, other.Days = -1, -1, -1, -1
		case api.OpRefund, api.OpWaive:
			other.Rate, other.Count, other.Days = -1, -1, -1
		case api.OpPromise:
			other.Rate, other.Count = -1, -1
		case api.OpRestructure:
			other.Amount, other.Days = -1, -1
		case api.OpDay:
			other.Loan, other.Amount, other.Rate, other.Count = -1, -1, -1, -1
		}
		if plain.e.Check(o) != strange.e.Check(other) {
			t.Errorf("15.4: Check(%+v) = %d, Check(%+v) = %d", o, plain.e.Check(o), other, strange.e.Check(other))
		}
		a, b := plain.e.Apply(o), strange.e.Apply(other)
		if !sameReply(a, b) || !sameState(plain.e.Save(), strange.e.Save()) {
			t.Errorf("15.5: %+v answers %v, %+v %v", o, a, other, b)
		}
	}
}

// 15.5: a loan that changes takes its notices along, behind the others, each with the next ID.
func TestNoticesOfChanges(t *testing.T) {
	s := begin(t, with(func(p *api.Policy) { p.NonAccrual = 11 }))
	s.does(open(5, 3650000, 1000, 2, api.PlanEqual), open(3, 120000, 0, 12, api.PlanLevel), days(42))
	s.does(pay(5, 100), giveBack(5), pay(5, 1900000), pay(5, 9000000), pay(5, 1))
	want := []api.Notice{
		{ID: 1, Loan: 3, Kind: api.NoticeDelinquent, Day: 738042, Amount: 10000},
		{ID: 2, Loan: 3, Kind: api.NoticeNonAccrual, Day: 738042, Amount: 10000},
		{ID: 3, Loan: 3, Kind: api.NoticeFee, Day: 738042, Amount: 1500},
		{ID: 4, Loan: 5, Kind: api.NoticeDelinquent, Day: 738042, Amount: 1855417},
		{ID: 5, Loan: 5, Kind: api.NoticeNonAccrual, Day: 738042, Amount: 1855417},
		{ID: 6, Loan: 5, Kind: api.NoticeFee, Day: 738042, Amount: 10000},
		{ID: 7, Loan: 5, Kind: api.NoticeReturned, Day: 738042, Amount: 100},
		{ID: 8, Loan: 5, Kind: api.NoticeCured, Day: 738042},
		{ID: 9, Loan: 5, Kind: api.NoticePaidOff, Day: 738042},
	}
	if got := s.e.Save().Notices; !slices.Equal(got, want) {
		t.Errorf("15.5: the notices are %+v, want %+v", got, want)
	}
	s.owes(want...)
}

// 15.5: the balances that replies tell are those of the books.
func TestNumbersAreOfTheBooks(t *testing.T) {
	s := begin(t, with(func(p *api.Policy) { p.Order = 5 }))
	s.does(open(1, 3650000, 1000, 2, api.PlanEqual), days(42))
	r := s.e.Apply(waive(1, 77))
	if fees, _ := ledger.Balance(s.loan(1).Book, api.Fees); r.Nums[0] != fees || fees != 9923 {
		t.Errorf("15.5: a waiver tells %v, the fees are %d", r.Nums, fees)
	}
	s.does(pay(1, 9000000))
	r = s.e.Apply(refund(1, 10))
	if unapplied, _ := ledger.Balance(s.loan(1).Book, api.Unapplied); r.Nums[0] != unapplied || unapplied < 1 {
		t.Errorf("15.5: a refund tells %v, unapplied are %d", r.Nums, unapplied)
	}
}
