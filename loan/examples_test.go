package loan_test

import (
	"math"
	"slices"
	"testing"

	"arrears/api"
	"arrears/loan"
)

const most, least = math.MaxInt64, math.MinInt64

// example is the policy of the chapter's examples.
func example() api.Policy {
	return api.Policy{
		FirstDay: 1, Grace: 10, NonAccrual: 90, ChargeOff: 120,
		LateRate: 500, LateMin: 1500, LateMax: 10000, CycleCap: 20000, LifeCap: 50000,
		Promises: 3, PromiseDays: 14, Restructures: 2,
		Order: 0, Rule: 0, RetryBase: 2, RetryCap: 16, SnapEvery: 100,
	}
}

// with is the policy of the examples with a change.
func with(change func(p *api.Policy)) api.Policy {
	p := example()
	change(&p)
	return p
}

// termsA are those of the loan A: two rows, and a day's interest of 1000 cents.
func termsA() api.Terms {
	return api.Terms{Kind: api.PlanEqual, Principal: 3650000, Rate: 1000, Count: 2, Start: 738000}
}

// sameLoan compares loans; a plan without rows may be nil or empty.
func sameLoan(a, b api.Loan) bool {
	return a.ID == b.ID && a.Terms == b.Terms && slices.Equal(a.Plan, b.Plan) && a.Book == b.Book && a.Case == b.Case &&
		a.Day == b.Day && a.Carry == b.Carry && a.Applied == b.Applied && a.Last == b.Last && a.HasLast == b.HasLast &&
		a.ChargedOff == b.ChargedOff && a.Trace == b.Trace
}

// sameOutcome compares all that two calls answered.
func sameOutcome(a, b api.Outcome) bool {
	return sameLoan(a.Loan, b.Loan) && a.Parts == b.Parts && slices.Equal(a.Notices, b.Notices) && a.Err == b.Err
}

// story is a loan's life, call by call, each where the one before left the loan.
type story struct {
	t *testing.T
	p api.Policy
	l api.Loan
}

// begin opens a loan with the number 1.
func begin(t *testing.T, p api.Policy, terms api.Terms) *story {
	t.Helper()
	o := loan.Open(p, 1, terms)
	if o.Err != api.OK {
		t.Fatalf("14.1: Open(%+v) = %d", terms, o.Err)
	}
	return &story{t, p, o.Loan}
}

// is holds a call to all that it answers: OK, what it changes in the loan, parts and notices.
func (s *story) is(promise string, o api.Outcome, parts api.Parts, notices []api.Notice, change func(l *api.Loan)) {
	s.t.Helper()
	want := s.l
	want.Plan = slices.Clone(want.Plan)
	change(&want)
	if o.Err != api.OK || o.Parts != parts || !slices.Equal(o.Notices, notices) {
		s.t.Errorf("%s: %d, %+v, %+v, want OK, %+v, %+v", promise, o.Err, o.Parts, o.Notices, parts, notices)
	}
	if !sameLoan(o.Loan, want) {
		s.t.Errorf("%s: the loan is\n%+v, want\n%+v", promise, o.Loan, want)
	}
	s.l = want
}

// fails holds a call to an error: the loan as it was handed in, no parts, no notices.
func (s *story) fails(promise string, o api.Outcome, why api.Errno) {
	s.t.Helper()
	if !sameOutcome(o, api.Outcome{Loan: s.l, Err: why}) {
		s.t.Errorf("%s: refused with %+v, want the loan as it was, and %d", promise, o, why)
	}
}

// goes lets a call go by that must be OK, and tells its notices.
func (s *story) goes(o api.Outcome) []api.Notice {
	s.t.Helper()
	if o.Err != api.OK {
		s.t.Fatalf("refused with %d: %+v", o.Err, s.l)
	}
	s.l = o.Loan
	return o.Notices
}

// rolls goes some days on, and tells the notices of all of them.
func (s *story) rolls(days int) []api.Notice {
	s.t.Helper()
	var all []api.Notice
	for range days {
		all = append(all, s.goes(loan.Roll(s.p, s.l))...)
	}
	return all
}

// to rolls up to a day.
func (s *story) to(day int) []api.Notice {
	s.t.Helper()
	return s.rolls(day - s.l.Day)
}

// told holds notices to what is wanted.
func (s *story) told(promise string, got []api.Notice, want ...api.Notice) {
	s.t.Helper()
	if !slices.Equal(got, want) {
		s.t.Errorf("%s: notices %+v, want %+v", promise, got, want)
	}
}

// timers holds Timers to what is wanted.
func (s *story) timers(want ...api.Timer) {
	s.t.Helper()
	if got := loan.Timers(s.p, s.l); !slices.Equal(got, want) {
		s.t.Errorf("14.10: Timers = %v, want %v", got, want)
	}
}

// looks holds Look to what is wanted.
func (s *story) looks(want api.View) {
	s.t.Helper()
	if got := loan.Look(s.p, s.l); got != want {
		s.t.Errorf("14.11: Look = %+v, want %+v", got, want)
	}
}

// nets holds the book to its nets.
func (s *story) nets(promise string, want [api.Accounts]int64) {
	s.t.Helper()
	if s.l.Book.Net != want {
		s.t.Errorf("%s: the book is %v, want %v", promise, s.l.Book.Net, want)
	}
}

// note is a notice of the loan 1.
func note(kind, day int, amount int64) api.Notice {
	return api.Notice{Loan: 1, Kind: kind, Day: day, Amount: amount}
}

// notes are several notices in one list.
func notes(list ...api.Notice) []api.Notice { return list }

// timer is a timer of the loan 1.
func timer(day, kind int) api.Timer {
	return api.Timer{Day: day, Loan: 1, Kind: kind}
}

func none() api.Parts { return api.Parts{} }

// pays moves a payment's parts in a book.
func pays(b *api.Book, parts api.Parts) {
	b.Net[api.Cash] += parts.Fees + parts.Interest + parts.Principal + parts.Unapplied + parts.Recovery
	b.Net[api.Fees] -= parts.Fees
	b.Net[api.Interest] -= parts.Interest
	b.Net[api.Principal] -= parts.Principal
	b.Net[api.Unapplied] -= parts.Unapplied
	b.Net[api.Recovery] -= parts.Recovery
}

// 14.1 to 14.11: the rows of the chapter's examples, each from the one above it.
func TestExamples(t *testing.T) {
	s := begin(t, example(), termsA())
	s.timers(timer(738032, api.TimerAge))
	s.told("14.8", s.rolls(32))
	s.looks(api.View{Status: api.Grace, Days: 1, Bucket: 1, PastDue: 1855417, Interest: 32000, Principal: 3650000, NextDue: 738031})
	s.nets("14.8", [api.Accounts]int64{api.Principal: 3650000, api.Interest: 32000, api.Funding: -3650000, api.Income: -32000})
	s.timers(timer(738042, api.TimerAge))
	s.told("14.8", s.rolls(9))
	s.is("14.8", loan.Roll(s.p, s.l), none(), notes(note(api.NoticeDelinquent, 738042, 1855417), note(api.NoticeFee, 738042, 10000)), func(l *api.Loan) {
		l.Day = 738042
		l.Plan[0].Marked = true
		l.Case = api.Case{Status: api.Delinquent, Cycles: 1, Since: 738042, Deadline: 738162, CycleFees: 10000, LifeFees: 10000}
		l.Book.Net = [api.Accounts]int64{api.Principal: 3650000, api.Interest: 42000, api.Fees: 10000, api.Funding: -3650000, api.Income: -42000, api.FeeIncome: -10000}
	})
	s.timers(timer(738073, api.TimerFee), timer(738121, api.TimerNonAccrual), timer(738162, api.TimerChargeOff))
	s.looks(api.View{
		Status: api.Delinquent, Days: 11, Bucket: 1, PastDue: 1855417, Fees: 10000, Interest: 42000, Principal: 3650000,
		Cycles: 1, Deadline: 738162, NextDue: 738031, LifeFees: 10000,
	})
	taken := api.Parts{Fees: 10000, Interest: 42000, Principal: 48000}
	before := s.l
	s.is("14.2", loan.Pay(s.p, s.l, 100000), taken, nil, func(l *api.Loan) {
		pays(&l.Book, taken)
		l.Applied, l.Last, l.HasLast = 90000, taken, true
	})
	s.is("14.3", loan.Return(s.p, s.l), taken, notes(note(api.NoticeReturned, 738042, 100000)), func(l *api.Loan) { *l = before })
	s.fails("14.3", loan.Return(s.p, s.l), api.ErrNoPay)
	s.fails("14.4", loan.Refund(s.p, s.l, 1), api.ErrFunds)
	s.fails("14.5", loan.Waive(s.p, s.l, 10001), api.ErrFunds)
	s.fails("14.5", loan.Waive(s.p, s.l, 0), api.ErrAmount)
	s.fails("14.7", loan.Restructure(s.p, s.l, 0, 0), api.ErrTerms)
	s.fails("14.6", loan.Promise(s.p, s.l, 0, 5), api.ErrAmount)
	s.is("14.6", loan.Promise(s.p, s.l, 500000, 14), none(), nil, func(l *api.Loan) {
		l.Case.Status, l.Case.Promises, l.Case.PromiseDue, l.Case.PromiseAmount, l.Case.Deadline = api.Promised, 1, 738056, 500000, 738176
	})
	s.fails("14.6", loan.Promise(s.p, s.l, 1, 1), api.ErrActive)
	s.is("14.5", loan.Waive(s.p, s.l, 10000), none(), nil, func(l *api.Loan) {
		l.Book.Net[api.Fees], l.Book.Net[api.Waived] = 0, 10000
	})
	theEnd(s)
}

// theEnd plays the last rows of the chapter's examples.
func theEnd(s *story) {
	s.t.Helper()
	taken := api.Parts{Interest: 42000, Principal: 1858000}
	s.is("14.2", loan.Pay(s.p, s.l, 1900000), taken, notes(note(api.NoticeCured, 738042, 0)), func(l *api.Loan) {
		pays(&l.Book, taken)
		l.Applied, l.Last, l.HasLast = 1900000, taken, true
		l.Case = api.Case{Status: api.Cured, Cycles: 1, Kept: 1, Cures: 1, LifeFees: 10000}
	})
	s.timers(timer(738063, api.TimerAge))
	taken = api.Parts{Principal: 1792000, Unapplied: 1}
	s.is("14.2", loan.Pay(s.p, s.l, 1792001), taken, notes(note(api.NoticePaidOff, 738042, 0)), func(l *api.Loan) {
		pays(&l.Book, taken)
		l.Applied, l.Last, l.HasLast = 3692000, none(), false
		l.Case.Status = api.Closed
	})
	s.timers()
	s.fails("14.3", loan.Return(s.p, s.l), api.ErrClosed)
	s.is("14.4", loan.Refund(s.p, s.l, 1), none(), nil, func(l *api.Loan) {
		l.Book.Net[api.Unapplied], l.Book.Net[api.Cash] = 0, 3692000
	})
}
