package loan_test

import (
	"testing"

	"arrears/api"
	"arrears/loan"
)

// 14.10: ahead of a cycle the next turn is the first day past due; in grace it is the day behind the grace.
func TestTimersAheadOfACycle(t *testing.T) {
	s := begin(t, example(), termsA())
	for s.l.Day < 738031 {
		s.timers(timer(738032, api.TimerAge))
		s.rolls(1)
	}
	s.timers(timer(738032, api.TimerAge))
	s.rolls(1)
	for s.l.Day < 738041 {
		s.timers(timer(738042, api.TimerAge))
		s.rolls(1)
	}
	s.timers(timer(738042, api.TimerAge))

	// Without a grace there is no such status.
	s = begin(t, with(func(p *api.Policy) { p.Grace = 0 }), termsA())
	s.to(738031)
	s.timers(timer(738032, api.TimerAge))
	s.rolls(1)
	s.timers(timer(738063, api.TimerFee), timer(738121, api.TimerNonAccrual), timer(738152, api.TimerChargeOff))
}

// 14.10: days that went by unlooked at are made up for tomorrow.
func TestTimersThatAreOverdue(t *testing.T) {
	s := begin(t, example(), termsA())
	s.goes(loan.Accrue(s.p, s.l, 300))
	s.timers(timer(738301, api.TimerAge))

	s = late(t, example())
	s.goes(loan.Accrue(s.p, s.l, 300))
	// The charge-off alone is told with the day that it was due on.
	s.timers(timer(738162, api.TimerChargeOff), timer(738343, api.TimerNonAccrual), timer(738343, api.TimerFee))
}

// 14.10: a promise has a timer on the day behind it, and puts off the fees that fall due while it runs.
func TestTimersOfAPromise(t *testing.T) {
	s := late(t, example())
	s.goes(loan.Promise(s.p, s.l, 500, 14))
	s.timers(timer(738057, api.TimerPromise), timer(738073, api.TimerFee), timer(738121, api.TimerNonAccrual), timer(738176, api.TimerChargeOff))
	s.goes(loan.Pay(s.p, s.l, 500))
	s.timers(timer(738073, api.TimerFee), timer(738121, api.TimerNonAccrual), timer(738176, api.TimerChargeOff))
	s.to(738060)
	s.goes(loan.Promise(s.p, s.l, 500, 14))
	s.timers(timer(738075, api.TimerPromise), timer(738075, api.TimerFee), timer(738121, api.TimerNonAccrual), timer(738190, api.TimerChargeOff))
}

// 14.10: in suspense there is no timer for it any more, and without rows to look at none for fees.
func TestTimersInSuspense(t *testing.T) {
	s := begin(t, strict(), termsA())
	s.to(738051)
	s.timers(timer(738072, api.TimerChargeOff), timer(738073, api.TimerFee))
	s = begin(t, example(), termsA())
	s.to(738073)
	s.timers(timer(738121, api.TimerNonAccrual), timer(738162, api.TimerChargeOff))
	s.to(738121)
	s.timers(timer(738162, api.TimerChargeOff))
}

// 14.10: of equal days the lesser kind comes first.
func TestTimersInOrder(t *testing.T) {
	p := with(func(p *api.Policy) { p.NonAccrual, p.ChargeOff = 42, 31 })
	s := late(t, p)
	s.timers(timer(738073, api.TimerNonAccrual), timer(738073, api.TimerChargeOff), timer(738073, api.TimerFee))
}

// 14.10: the fee's timer is of the first row that is neither satisfied nor marked, be there marked ones ahead of it.
func TestTimersOfFees(t *testing.T) {
	terms := api.Terms{Kind: api.PlanEqual, Principal: 300000, Rate: 0, Count: 3, Start: 738000}
	s := begin(t, example(), terms) // due on 738031, 738062, 738092
	s.to(738042)
	s.timers(timer(738073, api.TimerFee), timer(738121, api.TimerNonAccrual), timer(738162, api.TimerChargeOff))
	s.to(738073)
	s.timers(timer(738103, api.TimerFee), timer(738121, api.TimerNonAccrual), timer(738162, api.TimerChargeOff))
	// Fees 10000, and the first row: the second is 11 days past due then, and marked already.
	s.goes(loan.Pay(s.p, s.l, 110000))
	s.timers(timer(738103, api.TimerFee), timer(738152, api.TimerNonAccrual), timer(738162, api.TimerChargeOff))
	s.to(738103)
	s.timers(timer(738152, api.TimerNonAccrual), timer(738162, api.TimerChargeOff))
}

// 14.10: days above the calendar's last are told too, with the loan's own number.
func TestTimersBehindTheCalendar(t *testing.T) {
	o := loan.Open(example(), 999999, termsWith(func(t *api.Terms) { t.Start = api.MaxDay - 61 }))
	s := &story{t, example(), o.Loan}
	s.to(api.MaxDay)
	first := s.l.Plan[0].Due
	s.timers(
		api.Timer{Day: api.MaxDay + 11, Loan: 999999, Kind: api.TimerFee},
		api.Timer{Day: first + 90, Loan: 999999, Kind: api.TimerNonAccrual},
		api.Timer{Day: first + 11 + 120, Loan: 999999, Kind: api.TimerChargeOff},
	)
}

// 14.10: none of a loan that is over, and none of one that owes nothing on its plan.
func TestTimersNone(t *testing.T) {
	for _, s := range []*story{closed(t, example()), chargedOff(t, strict())} {
		s.timers()
		s.goes(loan.Pay(s.p, s.l, 5))
		s.timers()
	}
}

// 14.11: each number stands in its own place: a loan in which all of them differ.
func TestLook(t *testing.T) {
	p := with(func(p *api.Policy) { p.NonAccrual, p.Order = 35, 3 })
	terms := api.Terms{Kind: api.PlanEqual, Principal: 3650000, Rate: 1000, Count: 4, Start: 738000}
	s := begin(t, p, terms)
	s.to(738042)
	s.goes(loan.Promise(p, s.l, 100, 1))
	s.rolls(2) // the promise is broken
	for range 2 {
		s.goes(loan.Promise(p, s.l, 100, 14))
		s.goes(loan.Pay(p, s.l, 100))
	}
	s.goes(loan.Pay(p, s.l, 2000000)) // cured
	s.to(738110)
	s.goes(loan.Restructure(p, s.l, 4, 2000))
	s.to(738190)
	s.goes(loan.Promise(p, s.l, 12345, 9))
	c, b := s.l.Case, s.l.Book.Net
	if c.Cycles != 3 || c.Cures != 1 || c.Kept != 2 || c.Broken != 1 || c.Restructures != 1 || c.Promises != 1 || b[api.Suspense] == 0 {
		t.Fatalf("14.11: the loan to look at: %+v", s.l)
	}
	due := s.l.Plan[0].Due
	pastDue := int64(0)
	for _, row := range s.l.Plan {
		if row.Due < 738190 {
			pastDue += row.Interest + row.Principal
		}
	}
	s.looks(api.View{
		Status: api.Promised, Days: 738190 - due, Bucket: 2, PastDue: pastDue,
		Fees: b[api.Fees], Interest: b[api.Interest], Principal: b[api.Principal], Unapplied: 0, Suspense: -b[api.Suspense],
		Cycles: 3, Cures: 1, Kept: 2, Broken: 1, Restructures: 1, Promises: 1,
		PromiseDue: 738199, Deadline: c.Deadline, NextDue: due, LifeFees: c.LifeFees,
	})
}

// 14.11: the days past due and their class, day by day, and where the next row is due.
func TestLookDays(t *testing.T) {
	s := begin(t, example(), termsA())
	for s.l.Day < 738150 {
		v := loan.Look(s.p, s.l)
		days := max(0, s.l.Day-738031)
		bucket := 0
		for _, from := range []int{1, 30, 60, 90} {
			if days >= from {
				bucket++
			}
		}
		if v.Days != days || v.Bucket != bucket || v.NextDue != 738031 {
			t.Fatalf("14.11: on %d: %+v, want %d days in %d", s.l.Day, v, days, bucket)
		}
		s.rolls(1)
	}
}

// 14.11: of a loan that is paid off, of one that was given up, with what has come in since.
func TestLookOver(t *testing.T) {
	s := closed(t, example())
	s.goes(loan.Pay(s.p, s.l, 77))
	s.looks(api.View{Status: api.Closed, Unapplied: 77})
	s = chargedOff(t, strict())
	s.looks(api.View{Status: api.ChargedOff, Cycles: 1, LifeFees: 10000, ChargedOff: 3732000})
	s.goes(loan.Pay(s.p, s.l, 41))
	s.looks(api.View{Status: api.ChargedOff, Cycles: 1, LifeFees: 10000, ChargedOff: 3732000, Recovered: 41})
}
