package loan_test

import (
	"testing"

	"arrears/api"
	"arrears/loan"
)

// late is the loan A on the day on which its cycle opens: fees 10000, interest 42000, principal 3650000.
func late(t *testing.T, p api.Policy) *story {
	t.Helper()
	s := begin(t, p, termsA())
	s.to(738042)
	return s
}

// strict is a policy whose turns come soon: in suspense from 20 days past due on, charged off 30 days behind the opening.
func strict() api.Policy {
	return with(func(p *api.Policy) { p.NonAccrual, p.ChargeOff = 20, 30 })
}

// chargedOff is the loan A as the strict policy gave it up: fees 10000, interest 72000, principal 3650000.
func chargedOff(t *testing.T, p api.Policy) *story {
	t.Helper()
	s := begin(t, p, termsA())
	s.to(738072)
	if s.l.Case.Status != api.ChargedOff {
		t.Fatalf("14.8: not charged off: %+v", s.l.Case)
	}
	return s
}

// closed is the loan A paid off on its first day.
func closed(t *testing.T, p api.Policy) *story {
	t.Helper()
	s := begin(t, p, termsA())
	s.goes(loan.Pay(p, s.l, 3650000))
	if s.l.Case.Status != api.Closed {
		t.Fatalf("14.2: not closed: %+v", s.l.Case)
	}
	return s
}

// 14.2: an amount below 1 is refused, whatever the loan's status.
func TestPayAmounts(t *testing.T) {
	for _, s := range []*story{begin(t, example(), termsA()), late(t, example()), closed(t, example()), chargedOff(t, strict())} {
		for _, amount := range []int64{0, -1, least} {
			s.fails("14.2", loan.Pay(s.p, s.l, amount), api.ErrAmount)
		}
	}
}

// 14.2: the policy's order says what is paid first.
func TestPayOrders(t *testing.T) {
	want := []api.Parts{
		{Fees: 10000, Interest: 42000, Principal: 8000},
		{Fees: 10000, Principal: 50000},
		{Fees: 10000, Interest: 42000, Principal: 8000},
		{Interest: 42000, Principal: 18000},
		{Principal: 60000},
		{Principal: 60000},
	}
	for order, parts := range want {
		s := late(t, with(func(p *api.Policy) { p.Order = order }))
		s.is("14.2", loan.Pay(s.p, s.l, 60000), parts, nil, func(l *api.Loan) {
			pays(&l.Book, parts)
			l.Applied = parts.Interest + parts.Principal
			l.Last, l.HasLast = parts, true
		})
	}
	s := late(t, with(func(p *api.Policy) { p.Order = 2 }))
	if o := loan.Pay(s.p, s.l, 43000); o.Parts != (api.Parts{Fees: 1000, Interest: 42000}) || o.Loan.Applied != 42000 {
		t.Errorf("14.2: interest, then fees: %+v, applied %d", o.Parts, o.Loan.Applied)
	}
}

// 14.2: what is paid adds up on the plan, payment by payment; the last one alone could be returned.
func TestPayAddsUp(t *testing.T) {
	s := late(t, example())
	first, second := api.Parts{Fees: 10000, Interest: 5}, api.Parts{Interest: 7}
	s.is("14.2", loan.Pay(s.p, s.l, 10005), first, nil, func(l *api.Loan) {
		pays(&l.Book, first)
		l.Applied, l.Last, l.HasLast = 5, first, true
	})
	s.is("14.2", loan.Pay(s.p, s.l, 7), second, nil, func(l *api.Loan) {
		pays(&l.Book, second)
		l.Applied, l.Last = 12, second
	})
}

// 14.2: a cycle is cured by the cent that leaves nothing past due, not by the one ahead.
func TestPayCures(t *testing.T) {
	s := late(t, example())
	if o := loan.Pay(s.p, s.l, 10000+1855417-1); o.Loan.Case.Status != api.Delinquent || len(o.Notices) != 0 {
		t.Errorf("14.2: a cent too little: %+v, %+v", o.Loan.Case, o.Notices)
	}
	parts := api.Parts{Fees: 10000, Interest: 42000, Principal: 1813417}
	s.is("14.2", loan.Pay(s.p, s.l, 10000+1855417), parts, notes(note(api.NoticeCured, 738042, 0)), func(l *api.Loan) {
		pays(&l.Book, parts)
		l.Applied, l.Last, l.HasLast = 1855417, parts, true
		l.Case = api.Case{Status: api.Cured, Cycles: 1, Cures: 1, LifeFees: 10000}
	})
}

// 14.2: in grace a payment of what is past due leads back to current, without a notice.
func TestPayInGrace(t *testing.T) {
	s := begin(t, example(), termsA())
	s.to(738033)
	parts := api.Parts{Interest: 33000, Principal: 1822417}
	if o := loan.Pay(s.p, s.l, 1855416); o.Loan.Case.Status != api.Grace {
		t.Errorf("14.2: a cent too little in grace: %+v", o.Loan.Case)
	}
	s.is("14.2", loan.Pay(s.p, s.l, 1855417), parts, nil, func(l *api.Loan) {
		pays(&l.Book, parts)
		l.Applied, l.Last, l.HasLast = 1855417, parts, true
		l.Case.Status = api.Current
	})
}

// 14.2: a payment that is kept as promised, but leaves something past due, is told by no notice; the promise counts the whole amount, fees too.
func TestPayKeepsPromise(t *testing.T) {
	s := late(t, example())
	s.goes(loan.Promise(s.p, s.l, 11000, 14))
	first, second := api.Parts{Fees: 10000, Interest: 999}, api.Parts{Interest: 1}
	s.is("14.2", loan.Pay(s.p, s.l, 10999), first, nil, func(l *api.Loan) {
		pays(&l.Book, first)
		l.Applied, l.Last, l.HasLast = 999, first, true
		l.Case.PromiseGot = 10999
	})
	s.is("14.2", loan.Pay(s.p, s.l, 1), second, nil, func(l *api.Loan) {
		pays(&l.Book, second)
		l.Applied, l.Last = 1000, second
		l.Case.Status, l.Case.Kept = api.Delinquent, 1
		l.Case.PromiseDue, l.Case.PromiseAmount, l.Case.PromiseGot = 0, 0, 0
	})
}

// 14.2: a cure makes income of all that is in suspense, paid or not.
func TestPayCuresSuspense(t *testing.T) {
	s := begin(t, strict(), termsA())
	s.to(738060)
	s.nets("14.8", [api.Accounts]int64{
		api.Principal: 3650000, api.Interest: 60000, api.Fees: 10000,
		api.Funding: -3650000, api.Income: -51000, api.Suspense: -9000, api.FeeIncome: -10000,
	})
	parts := api.Parts{Fees: 10000, Interest: 60000, Principal: 1795417}
	s.is("14.2", loan.Pay(s.p, s.l, 1865417), parts, notes(note(api.NoticeCured, 738060, 0)), func(l *api.Loan) {
		pays(&l.Book, parts)
		l.Book.Net[api.Suspense], l.Book.Net[api.Income] = 0, -60000
		l.Applied, l.Last, l.HasLast = 1855417, parts, true
		l.Case = api.Case{Status: api.Cured, Cycles: 1, Cures: 1, LifeFees: 10000}
	})

	// Principal first: what is cured here has paid no interest at all.
	s = begin(t, with(func(p *api.Policy) { p.NonAccrual, p.ChargeOff, p.Order = 20, 30, 5 }), termsA())
	s.to(738060)
	parts = api.Parts{Principal: 1855417}
	s.is("14.2", loan.Pay(s.p, s.l, 1855417), parts, notes(note(api.NoticeCured, 738060, 0)), func(l *api.Loan) {
		pays(&l.Book, parts)
		l.Book.Net[api.Suspense], l.Book.Net[api.Income] = 0, -60000
		l.Applied, l.Last, l.HasLast = 1855417, parts, true
		l.Case = api.Case{Status: api.Cured, Cycles: 1, Cures: 1, LifeFees: 10000}
	})
}

// 14.2: what pays all off within a cycle is told as cured first, then as paid off; what is too much is unapplied.
func TestPayOffInCycle(t *testing.T) {
	for _, over := range []int64{0, 1, 350000} {
		s := begin(t, strict(), termsA())
		s.to(738060)
		parts := api.Parts{Fees: 10000, Interest: 60000, Principal: 3650000, Unapplied: over}
		told := notes(note(api.NoticeCured, 738060, 0), note(api.NoticePaidOff, 738060, 0))
		s.is("14.2", loan.Pay(s.p, s.l, 3720000+over), parts, told, func(l *api.Loan) {
			pays(&l.Book, parts)
			l.Book.Net[api.Suspense], l.Book.Net[api.Income] = 0, -60000
			l.Applied = 3710000
			l.Case = api.Case{Status: api.Closed, Cycles: 1, Cures: 1, LifeFees: 10000}
		})
	}
	s := begin(t, strict(), termsA())
	s.to(738060)
	if o := loan.Pay(s.p, s.l, 3719999); o.Loan.Case.Status != api.Cured || len(o.Notices) != 1 || !o.Loan.HasLast {
		t.Errorf("14.2: a cent is still owed: %+v, %+v", o.Loan.Case, o.Notices)
	}
}

// 14.2: where fees come last, a loan may be cured of which nothing but fees is owed; it is not closed till they are paid.
func TestPayFeesLast(t *testing.T) {
	s := late(t, with(func(p *api.Policy) { p.Order = 3 }))
	s.told("14.2", s.goes(loan.Pay(s.p, s.l, 3692000)), note(api.NoticeCured, 738042, 0))
	s.looks(api.View{Status: api.Cured, Fees: 10000, Cycles: 1, Cures: 1, LifeFees: 10000})
	s.timers()
	s.told("14.8", s.rolls(100))
	s.told("14.2", s.goes(loan.Pay(s.p, s.l, 9999)))
	parts := api.Parts{Fees: 1}
	s.is("14.2", loan.Pay(s.p, s.l, 1), parts, notes(note(api.NoticePaidOff, 738142, 0)), func(l *api.Loan) {
		pays(&l.Book, parts)
		l.Last, l.HasLast, l.Case.Status = none(), false, api.Closed
	})
}

// 14.2: of a closed loan all is unapplied; nothing else moves, and there is nothing to return.
func TestPayClosed(t *testing.T) {
	s := closed(t, example())
	for _, amount := range []int64{1, 77, 1000000} {
		parts := api.Parts{Unapplied: amount}
		s.is("14.2", loan.Pay(s.p, s.l, amount), parts, nil, func(l *api.Loan) { pays(&l.Book, parts) })
	}
	s.fails("14.3", loan.Return(s.p, s.l), api.ErrClosed)
}

// 14.2: of a loan that is charged off all is recovered up to what was given up, and then unapplied.
func TestPayRecovers(t *testing.T) {
	s := chargedOff(t, strict())
	if s.l.ChargedOff != 3732000 {
		t.Fatalf("14.8: charged off %d, want 3732000", s.l.ChargedOff)
	}
	for _, c := range []struct {
		amount int64
		parts  api.Parts
	}{
		{1, api.Parts{Recovery: 1}},
		{3731998, api.Parts{Recovery: 3731998}},
		{3, api.Parts{Recovery: 1, Unapplied: 2}},
		{5, api.Parts{Unapplied: 5}},
	} {
		s.is("14.2", loan.Pay(s.p, s.l, c.amount), c.parts, nil, func(l *api.Loan) { pays(&l.Book, c.parts) })
	}
	s.looks(api.View{Status: api.ChargedOff, Unapplied: 7, Cycles: 1, LifeFees: 10000, ChargedOff: 3732000, Recovered: 3732000})
}

// 14.2: a payment that the books cannot hold is refused, and nothing of it stays.
func TestPayTooMuch(t *testing.T) {
	s := late(t, example())
	s.goes(loan.Pay(s.p, s.l, 100))
	s.fails("14.2", loan.Pay(s.p, s.l, most), api.ErrRange)
	s.fails("14.2", loan.Pay(s.p, s.l, most-99), api.ErrRange)
	s.goes(loan.Pay(s.p, s.l, most-100))
	if s.l.Book.Net[api.Cash] != most || s.l.Case.Status != api.Closed {
		t.Errorf("14.2: the greatest payment: %+v", s.l)
	}
	s.fails("14.2", loan.Pay(s.p, s.l, 1), api.ErrRange)
	s.goes(loan.Refund(s.p, s.l, 1))
	s.goes(loan.Pay(s.p, s.l, 1))

	s = chargedOff(t, strict())
	s.goes(loan.Pay(s.p, s.l, most))
	s.fails("14.2", loan.Pay(s.p, s.l, 1), api.ErrRange)
}
