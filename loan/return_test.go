package loan_test

import (
	"testing"

	"arrears/api"
	"arrears/loan"
)

// 14.3: without a payment there is none to return; of a loan that is over none ever.
func TestReturnNothing(t *testing.T) {
	s := begin(t, example(), termsA())
	s.fails("14.3", loan.Return(s.p, s.l), api.ErrNoPay)
	late := late(t, example())
	late.fails("14.3", loan.Return(late.p, late.l), api.ErrNoPay)
	for _, s := range []*story{closed(t, example()), chargedOff(t, strict())} {
		s.fails("14.3", loan.Return(s.p, s.l), api.ErrClosed)
		s.goes(loan.Pay(s.p, s.l, 5))
		s.fails("14.3", loan.Return(s.p, s.l), api.ErrClosed)
	}
}

// 14.3: the last payment goes back, those ahead of it stay; then there is none to return any more.
func TestReturnTheLast(t *testing.T) {
	s := late(t, example())
	s.goes(loan.Pay(s.p, s.l, 11000))
	ahead := s.l
	ahead.Last, ahead.HasLast = none(), false
	s.goes(loan.Pay(s.p, s.l, 50000))
	parts := api.Parts{Interest: 41000, Principal: 9000}
	s.is("14.3", loan.Return(s.p, s.l), parts, notes(note(api.NoticeReturned, 738042, 50000)), func(l *api.Loan) { *l = ahead })
	s.fails("14.3", loan.Return(s.p, s.l), api.ErrNoPay)
}

// 14.3: a payment may come back days later, when other interest has accrued.
func TestReturnLater(t *testing.T) {
	s := late(t, example())
	s.goes(loan.Pay(s.p, s.l, 52000))
	s.rolls(3)
	parts := api.Parts{Fees: 10000, Interest: 42000}
	s.is("14.3", loan.Return(s.p, s.l), parts, notes(note(api.NoticeReturned, 738045, 52000)), func(l *api.Loan) {
		l.Book.Net[api.Cash], l.Book.Net[api.Fees], l.Book.Net[api.Interest] = 0, 10000, 45000
		l.Applied, l.Last, l.HasLast = 0, none(), false
	})
}

// 14.3: what a promise has got is taken off it again.
func TestReturnFromPromise(t *testing.T) {
	s := late(t, example())
	s.goes(loan.Promise(s.p, s.l, 30000, 14))
	s.goes(loan.Pay(s.p, s.l, 12000))
	s.goes(loan.Pay(s.p, s.l, 5000))
	parts := api.Parts{Interest: 5000}
	s.is("14.3", loan.Return(s.p, s.l), parts, notes(note(api.NoticeReturned, 738042, 5000)), func(l *api.Loan) {
		l.Book.Net[api.Cash] -= 5000
		l.Book.Net[api.Interest] += 5000
		l.Applied, l.Last, l.HasLast = 2000, none(), false
		l.Case.PromiseGot = 12000
	})
}

// 14.3: what a cure made of suspense stays income, and the loan stays cured till the next roll finds it late again: in a new cycle, the row that was marked stays so.
func TestReturnOfACure(t *testing.T) {
	s := begin(t, strict(), termsA())
	s.to(738060)
	s.goes(loan.Pay(s.p, s.l, 1865417))
	parts := api.Parts{Fees: 10000, Interest: 60000, Principal: 1795417}
	s.is("14.3", loan.Return(s.p, s.l), parts, notes(note(api.NoticeReturned, 738060, 1865417)), func(l *api.Loan) {
		l.Book.Net = [api.Accounts]int64{
			api.Principal: 3650000, api.Interest: 60000, api.Fees: 10000,
			api.Funding: -3650000, api.Income: -60000, api.FeeIncome: -10000,
		}
		l.Applied, l.Last, l.HasLast = 0, none(), false
	})
	s.timers(timer(738061, api.TimerAge))
	told := notes(note(api.NoticeDelinquent, 738061, 1855417), note(api.NoticeNonAccrual, 738061, 1855417))
	s.is("14.8", loan.Roll(s.p, s.l), none(), told, func(l *api.Loan) {
		l.Day = 738061
		l.Book.Net[api.Interest], l.Book.Net[api.Income] = 61000, -61000
		l.Case = api.Case{Status: api.NonAccrual, Suspended: true, Cycles: 2, Since: 738061, Deadline: 738091, Cures: 1, LifeFees: 10000}
	})
}

// 14.3: a restructuring, a closing and a charge-off forget the last payment; a waiver, a promise and a day do not.
func TestReturnForgotten(t *testing.T) {
	s := late(t, example())
	s.goes(loan.Pay(s.p, s.l, 500))
	for _, o := range []api.Outcome{loan.Waive(s.p, s.l, 1), loan.Promise(s.p, s.l, 5, 5), loan.Roll(s.p, s.l), loan.Accrue(s.p, s.l, 9)} {
		if o.Err != api.OK || !o.Loan.HasLast || o.Loan.Last != (api.Parts{Fees: 500}) {
			t.Errorf("14.3: the last payment is gone: %+v", o)
		}
	}
	s.goes(loan.Restructure(s.p, s.l, 3, 100))
	s.fails("14.3", loan.Return(s.p, s.l), api.ErrNoPay)

	s = begin(t, strict(), termsA())
	s.to(738060)
	s.goes(loan.Pay(s.p, s.l, 500))
	s.to(738072)
	if s.l.HasLast || s.l.Last != none() {
		t.Errorf("14.8: a charge-off keeps the last payment: %+v", s.l)
	}
}

// 14.4: what is unapplied is paid out, to the last cent and no further, whatever the status.
func TestRefund(t *testing.T) {
	off := chargedOff(t, strict())
	off.goes(loan.Pay(off.p, off.l, 3732000))
	done := closed(t, example())
	for _, s := range []*story{done, off} {
		s.fails("14.4", loan.Refund(s.p, s.l, 1), api.ErrFunds)
		s.goes(loan.Pay(s.p, s.l, 100))
		for _, amount := range []int64{0, -1, least} {
			s.fails("14.4", loan.Refund(s.p, s.l, amount), api.ErrAmount)
		}
		for _, amount := range []int64{101, most} {
			s.fails("14.4", loan.Refund(s.p, s.l, amount), api.ErrFunds)
		}
		for _, amount := range []int64{1, 99} {
			s.is("14.4", loan.Refund(s.p, s.l, amount), none(), nil, func(l *api.Loan) {
				l.Book.Net[api.Unapplied] += amount
				l.Book.Net[api.Cash] -= amount
			})
		}
		s.fails("14.4", loan.Refund(s.p, s.l, 1), api.ErrFunds)
	}
	for _, s := range []*story{begin(t, example(), termsA()), late(t, example())} {
		s.fails("14.4", loan.Refund(s.p, s.l, 0), api.ErrAmount)
		s.fails("14.4", loan.Refund(s.p, s.l, 1), api.ErrFunds)
	}
}

// 14.5: fees are let go, to the last cent and no further, while the loan is not over.
func TestWaive(t *testing.T) {
	s := late(t, example())
	for _, amount := range []int64{0, -1, least} {
		s.fails("14.5", loan.Waive(s.p, s.l, amount), api.ErrAmount)
	}
	for _, amount := range []int64{10001, most} {
		s.fails("14.5", loan.Waive(s.p, s.l, amount), api.ErrFunds)
	}
	for _, amount := range []int64{1, 9999} {
		s.is("14.5", loan.Waive(s.p, s.l, amount), none(), nil, func(l *api.Loan) {
			l.Book.Net[api.Waived] += amount
			l.Book.Net[api.Fees] -= amount
		})
	}
	s.fails("14.5", loan.Waive(s.p, s.l, 1), api.ErrFunds)
	for _, s := range []*story{closed(t, example()), chargedOff(t, strict())} {
		s.fails("14.5", loan.Waive(s.p, s.l, 0), api.ErrAmount)
		s.fails("14.5", loan.Waive(s.p, s.l, 1), api.ErrClosed)
		s.fails("14.5", loan.Waive(s.p, s.l, most), api.ErrClosed)
	}
}

// 14.5: if only fees were owed, letting go the last of them closes the loan.
func TestWaiveCloses(t *testing.T) {
	s := late(t, with(func(p *api.Policy) { p.Order = 5 }))
	s.goes(loan.Pay(s.p, s.l, 3692000))
	s.is("14.5", loan.Waive(s.p, s.l, 9999), none(), nil, func(l *api.Loan) {
		l.Book.Net[api.Waived], l.Book.Net[api.Fees] = 9999, 1
	})
	s.is("14.5", loan.Waive(s.p, s.l, 1), none(), notes(note(api.NoticePaidOff, 738042, 0)), func(l *api.Loan) {
		l.Book.Net[api.Waived], l.Book.Net[api.Fees] = 10000, 0
		l.Last, l.HasLast, l.Case.Status = none(), false, api.Closed
	})
}
