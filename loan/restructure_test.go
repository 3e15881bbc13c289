package loan_test

import (
	"testing"

	"arrears/api"
	"arrears/interest"
	"arrears/loan"
)

// 14.6: a promise is the case's alone: no money moves, and no notice is owed.
func TestPromise(t *testing.T) {
	s := late(t, example())
	for _, days := range []int{least, -1, 0, 15, most} {
		s.fails("14.6", loan.Promise(s.p, s.l, 0, days), api.ErrArg)
		s.fails("14.6", loan.Promise(s.p, s.l, 1, days), api.ErrArg)
	}
	for _, amount := range []int64{0, -1, least} {
		s.fails("14.6", loan.Promise(s.p, s.l, amount, 1), api.ErrAmount)
	}
	for _, days := range []int{1, 14} {
		for _, amount := range []int64{1, most} {
			fresh := &story{t, s.p, s.l}
			fresh.is("14.6", loan.Promise(s.p, s.l, amount, days), none(), nil, func(l *api.Loan) {
				l.Case.Status, l.Case.Promises, l.Case.PromiseAmount = api.Promised, 1, amount
				l.Case.PromiseDue, l.Case.Deadline = 738042+days, 738162+days
			})
			fresh.fails("14.6", loan.Promise(s.p, fresh.l, amount, days), api.ErrActive)
		}
	}
}

// 14.6: promises need an open cycle and room; of a loan that is over none is taken.
func TestPromiseRefused(t *testing.T) {
	s := begin(t, example(), termsA())
	s.fails("14.6", loan.Promise(s.p, s.l, 5, 5), api.ErrNotOpen)
	s.to(738033)
	s.fails("14.6", loan.Promise(s.p, s.l, 5, 5), api.ErrNotOpen)
	for _, s := range []*story{closed(t, example()), chargedOff(t, strict())} {
		s.fails("14.6", loan.Promise(s.p, s.l, 5, 5), api.ErrClosed)
		s.fails("14.6", loan.Promise(s.p, s.l, 0, 5), api.ErrAmount)
	}
	s = late(t, with(func(p *api.Policy) { p.Promises = 1 }))
	s.goes(loan.Promise(s.p, s.l, 5, 1))
	s.goes(loan.Pay(s.p, s.l, 5))
	s.fails("14.6", loan.Promise(s.p, s.l, 5, 1), api.ErrBudget)
}

// 14.7: all that is owed is the new plan's principal; suspense becomes income, what was paid on the old plan counts no more.
func TestRestructure(t *testing.T) {
	s := begin(t, strict(), termsA())
	s.to(738060)
	s.goes(loan.Promise(s.p, s.l, 30000, 14))
	s.goes(loan.Pay(s.p, s.l, 15000))
	terms := api.Terms{Kind: api.PlanEqual, Principal: 3705000, Rate: 250, Count: 7, Start: 738060}
	plan, _ := interest.Plan(terms, nil)
	s.is("14.7", loan.Restructure(s.p, s.l, 7, 250), none(), notes(note(api.NoticeRestructured, 738060, 3705000)), func(l *api.Loan) {
		l.Terms, l.Plan = terms, plan
		l.Book.Net = [api.Accounts]int64{
			api.Cash: 15000, api.Principal: 3705000,
			api.Funding: -3650000, api.Income: -60000, api.FeeIncome: -10000,
		}
		l.Case = api.Case{Status: api.Restructured, Cycles: 1, Restructures: 1, LifeFees: 10000}
		l.Applied, l.Last, l.HasLast = 0, none(), false
	})
	s.fails("14.7", loan.Restructure(s.p, s.l, 7, 250), api.ErrNotOpen)
}

// 14.7: kind and rule of the terms stay, the holidays are the policy's, and the fraction of a cent is carried on.
func TestRestructureKeeps(t *testing.T) {
	p := with(func(p *api.Policy) { p.Holidays = []int{738074}; p.Rule = api.RulePreceding })
	for kind := range 3 {
		for rule := range 4 {
			terms := api.Terms{Kind: kind, Principal: 1234567, Rate: 777, Count: 3, Start: 738000, Rule: rule}
			s := begin(t, p, terms)
			s.to(738044)
			if s.l.Case.Status != api.Delinquent || s.l.Carry == 0 {
				t.Fatalf("14.8: %+v, carry %d", s.l.Case, s.l.Carry)
			}
			owed := s.l.Book.Net[api.Fees] + s.l.Book.Net[api.Interest] + s.l.Book.Net[api.Principal]
			o := loan.Restructure(p, s.l, 5, 333)
			want := api.Terms{Kind: kind, Principal: owed, Rate: 333, Count: 5, Start: 738044, Rule: rule}
			plan, _ := interest.Plan(want, p.Holidays)
			s.is("14.7", o, none(), notes(note(api.NoticeRestructured, 738044, owed)), func(l *api.Loan) {
				l.Terms, l.Plan = want, plan
				l.Book.Net[api.Fees], l.Book.Net[api.Interest], l.Book.Net[api.Principal] = 0, 0, owed
				l.Case = api.Case{Status: api.Restructured, Cycles: 1, Restructures: 1, LifeFees: l.Case.LifeFees}
			})
		}
	}
}

// 14.7: the new numbers are looked at first, at their ends, then the case.
func TestRestructureRefused(t *testing.T) {
	s := late(t, example())
	over := []*story{closed(t, example()), chargedOff(t, strict())}
	for _, s := range append(over, begin(t, example(), termsA()), s) {
		for _, count := range []int{least, -1, 0, 121, most} {
			s.fails("14.7", loan.Restructure(s.p, s.l, count, 100), api.ErrTerms)
		}
		for _, rate := range []int64{least, -1, 100001, most} {
			s.fails("14.7", loan.Restructure(s.p, s.l, 5, rate), api.ErrTerms)
		}
	}
	for _, count := range []int{1, 120} {
		for _, rate := range []int64{0, 100000} {
			if o := loan.Restructure(s.p, s.l, count, rate); o.Err != api.OK || o.Loan.Terms.Count != count || o.Loan.Terms.Rate != rate {
				t.Errorf("14.7: Restructure(%d, %d) = %d", count, rate, o.Err)
			}
		}
	}
	for _, s := range over {
		s.fails("14.7", loan.Restructure(s.p, s.l, 5, 100), api.ErrClosed)
	}
	fresh := begin(t, example(), termsA())
	fresh.fails("14.7", loan.Restructure(fresh.p, fresh.l, 5, 100), api.ErrNotOpen)
}

// 14.7: a loan is restructured as often as the policy says, each time in a cycle of its own.
func TestRestructureBudget(t *testing.T) {
	for budget := range 5 {
		s := late(t, with(func(p *api.Policy) { p.Restructures = budget }))
		for range budget {
			s.goes(loan.Restructure(s.p, s.l, 2, 100))
			s.rolls(42)
		}
		s.fails("14.7", loan.Restructure(s.p, s.l, 2, 100), api.ErrBudget)
		if s.l.Case.Restructures != budget || s.l.Case.Cycles != budget+1 {
			t.Errorf("14.7: %+v, want %d restructurings", s.l.Case, budget)
		}
	}
}

// 14.7: more than MaxPrincipal is no principal of a plan: refused behind what the case says, and ahead of the date.
func TestRestructureTooMuch(t *testing.T) {
	p := with(func(p *api.Policy) { p.Restructures = 1 })
	terms := api.Terms{Kind: api.PlanBalloon, Principal: api.MaxPrincipal, Rate: 1, Count: 1, Start: 738000}
	s := begin(t, p, terms)
	s.to(738042)
	before := s.l
	s.fails("14.7", loan.Restructure(p, s.l, 5, 100), api.ErrRange)
	// Interest alone is above it by this much, fees too.
	above := s.l.Book.Net[api.Interest] + s.l.Book.Net[api.Fees]
	s.goes(loan.Pay(p, s.l, above-1))
	s.fails("14.7", loan.Restructure(p, s.l, 5, 100), api.ErrRange)
	if o := loan.Restructure(p, loan.Pay(p, s.l, 1).Loan, 5, 100); o.Err != api.OK || o.Loan.Terms.Principal != api.MaxPrincipal {
		t.Errorf("14.7: just MaxPrincipal: %d, %+v", o.Err, o.Loan.Terms)
	}

	spent := with(func(p *api.Policy) { p.Restructures = 0 })
	if o := loan.Restructure(spent, before, 5, 100); o.Err != api.ErrBudget {
		t.Errorf("14.7: the case is asked ahead of the sum: %d", o.Err)
	}
	s = begin(t, p, termsWith(func(t *api.Terms) { *t = terms; t.Start = api.MaxDay - 61 }))
	s.to(api.MaxDay - 19)
	s.fails("14.7", loan.Restructure(p, s.l, 1, 100), api.ErrRange)
}

// 14.7: a plan that runs out of the calendar is refused, and the event has changed nothing either.
func TestRestructureDates(t *testing.T) {
	s := begin(t, example(), termsWith(func(t *api.Terms) { t.Start, t.Count = api.MaxDay-120, 1 }))
	s.to(api.MaxDay - 40)
	if s.l.Case.Status != api.Delinquent {
		t.Fatalf("14.8: %+v", s.l.Case)
	}
	s.fails("14.7", loan.Restructure(s.p, s.l, 2, 100), api.ErrDate)
	s.goes(loan.Restructure(s.p, s.l, 1, 100))
}
