package engine_test

import (
	"slices"
	"testing"

	"arrears/api"
	"arrears/loan"
)

// 15.5: a day operation is of 1 to 60 days, and stays within the calendar; how many days it has is looked at first.
func TestDaysRefused(t *testing.T) {
	s := begin(t, example())
	s.does(open(7, 120000, 900, 12, api.PlanLevel))
	s.fails(api.ErrArg, days(least), days(-1), days(0), days(61), days(1000), days(most))
	s.goes(days(60), first+60, 2)
	s.goes(days(1), first+61, 0)

	s = begin(t, with(func(p *api.Policy) { p.FirstDay = api.MaxDay - 59 }))
	s.fails(api.ErrDate, days(60))
	s.fails(api.ErrArg, days(61), days(0))
	s.goes(days(59), api.MaxDay, 0)
	s.fails(api.ErrDate, days(1), days(60))
	s.fails(api.ErrArg, days(61), days(most), days(0))
}

// 15.5: a portfolio with loans comes to the last day, and no further.
func TestDaysToTheEnd(t *testing.T) {
	s := begin(t, with(func(p *api.Policy) { p.FirstDay = api.MaxDay - 45 }))
	s.does(open(7, 120000, 900, 1, api.PlanLevel), open(9, 120000, 900, 1, api.PlanLevel), days(30), pay(9, 130000))
	s.fails(api.ErrDate, days(16))
	s.goes(days(15), api.MaxDay, 2)
	s.fails(api.ErrDate, days(1))
	s.asks(query(api.OpToday), api.MaxDay, 2)
	for _, l := range s.e.Save().Loans {
		if l.Day != api.MaxDay {
			t.Errorf("15.5: on the last day a loan is at %d", l.Day)
		}
	}
	// Its deadline lies behind the calendar's end, and is told all the same.
	if timers := s.e.Timers(); !slices.Contains(timers, api.Timer{Day: s.loan(7).Case.Deadline, Loan: 7, Kind: api.TimerChargeOff}) || s.loan(7).Case.Deadline <= api.MaxDay {
		t.Errorf("15.9: on the last day the timers are %v", timers)
	}
}

// rolled is a portfolio led day by day as the promise says it: every loan, by rising number, by loan.Roll.
func rolled(t *testing.T, p api.Policy, s api.State, count int) api.State {
	t.Helper()
	s = kept(s)
	for range count {
		for i, l := range s.Loans {
			o := loan.Roll(p, l)
			if o.Err != api.OK {
				t.Fatalf("14.8: Roll of %+v = %d", l, o.Err)
			}
			s.Loans[i] = o.Loan
			for _, n := range o.Notices {
				n.ID = len(s.Notices) + 1
				s.Notices = append(s.Notices, n)
			}
		}
		s.Today++
	}
	return s
}

// 15.5: notices come by the day, and of one day by the loan's number, however many days one operation has.
func TestOrderOfNotices(t *testing.T) {
	s := begin(t, with(func(p *api.Policy) { p.Grace, p.NonAccrual = 3, 5 }))
	// The loan 9 is late ahead of the loan 2, and 4 and 6 on one day.
	s.does(open(9, 30000, 800, 3, api.PlanEqual), days(2), open(6, 30000, 800, 3, api.PlanEqual), open(4, 9000, 800, 3, api.PlanEqual), days(1), open(2, 30000, 0, 3, api.PlanLevel), days(28))
	want := rolled(t, s.p, s.e.Save(), 60)
	s.goes(days(60), int64(want.Today), int64(len(want.Notices)))
	got := s.e.Save()
	if !sameState(got, want) {
		t.Errorf("15.5: behind 60 days the portfolio is\n%+v, want\n%+v", got, want)
	}
	if len(got.Notices) < 16 {
		t.Errorf("few notices: %+v", got.Notices)
	}
	for i := 1; i < len(got.Notices); i++ {
		a, b := got.Notices[i-1], got.Notices[i]
		if a.Day > b.Day || a.Day == b.Day && a.Loan > b.Loan {
			t.Errorf("15.5: %+v comes ahead of %+v", a, b)
		}
	}
	// A second operation counts its own notices alone.
	want = rolled(t, s.p, got, 60)
	s.goes(days(60), int64(want.Today), int64(len(want.Notices)-len(got.Notices)))
	if !sameState(s.e.Save(), want) {
		t.Errorf("15.5: behind 60 more days the portfolio is\n%+v, want\n%+v", s.e.Save(), want)
	}
}

// 15.5, 15.10: one operation of many days goes through every turn that a loan may take on its own: it is late, charged fees, in non-accrual, its promise is broken, it is charged off.
func TestManyTurnsInOneOperation(t *testing.T) {
	p := with(func(p *api.Policy) { p.Grace, p.NonAccrual, p.ChargeOff, p.PromiseDays = 0, 4, 20, 10 })
	s := begin(t, p)
	s.does(open(1, 300000, 1200, 6, api.PlanEqual), days(32), promise(1, 1, 3), open(2, 5000, 0, 2, api.PlanBalloon))
	want := rolled(t, p, s.e.Save(), 60)
	s.does(days(60))
	if got := s.e.Save(); !sameState(got, want) {
		t.Errorf("15.5: behind 60 days the portfolio is\n%+v, want\n%+v", got, want)
	}
	var kinds []int
	for _, n := range s.e.Save().Notices {
		if n.Loan == 1 {
			kinds = append(kinds, n.Kind)
		}
	}
	if want := []int{api.NoticeDelinquent, api.NoticeFee, api.NoticeNonAccrual, api.NoticeBroken, api.NoticeChargedOff}; !slices.Equal(kinds, want) {
		t.Errorf("15.5: the notices are of the kinds %v, want %v", kinds, want)
	}
}

// union are the timers of all loans as Save tells them, in the order of chapter 11.
func union(p api.Policy, s api.State) []api.Timer {
	var all []api.Timer
	for _, l := range s.Loans {
		all = append(all, loan.Timers(p, l)...)
	}
	slices.SortFunc(all, func(a, b api.Timer) int {
		switch {
		case a.Day != b.Day:
			return a.Day - b.Day
		case a.Loan != b.Loan:
			return a.Loan - b.Loan
		}
		return a.Kind - b.Kind
	})
	return all
}

// 15.9: the timers of all loans, by day, then loan, then kind.
func TestTimers(t *testing.T) {
	s := begin(t, with(func(p *api.Policy) { p.NonAccrual = 45; p.PromiseDays = 60 }))
	if got := s.e.Timers(); len(got) != 0 {
		t.Errorf("15.9: the timers of no loans are %v", got)
	}
	s.does(open(9, 30000, 800, 3, api.PlanEqual), open(2, 30000, 0, 3, api.PlanLevel), open(5, 30000, 0, 3, api.PlanLevel))
	want := []api.Timer{{Day: 738032, Loan: 2, Kind: 2}, {Day: 738032, Loan: 5, Kind: 2}, {Day: 738032, Loan: 9, Kind: 2}}
	if got := s.e.Timers(); !slices.Equal(got, want) {
		t.Errorf("15.9: the timers are %v, want %v", got, want)
	}
	// The promise of 5 is broken, and its second row looked at, on the day on which interest goes into suspense.
	s.does(pay(2, 10000), days(42), promise(5, 1, 33))
	want = []api.Timer{
		{Day: 738063, Loan: 2, Kind: 2}, {Day: 738073, Loan: 9, Kind: 5}, {Day: 738076, Loan: 5, Kind: 1}, {Day: 738076, Loan: 5, Kind: 3},
		{Day: 738076, Loan: 5, Kind: 5}, {Day: 738076, Loan: 9, Kind: 3}, {Day: 738162, Loan: 9, Kind: 4}, {Day: 738195, Loan: 5, Kind: 4},
	}
	if got := s.e.Timers(); !slices.Equal(got, want) {
		t.Errorf("15.9: the timers are %v, want %v", got, want)
	}
	var nums []int64
	for _, k := range want {
		nums = append(nums, int64(k.Day), int64(k.Loan), int64(k.Kind))
	}
	s.asks(query(api.OpTimers), nums...)
	s.does(pay(9, 90000), pay(2, 90000))
	want = slices.DeleteFunc(want, func(k api.Timer) bool { return k.Loan != 5 })
	if got := s.e.Timers(); !slices.Equal(got, want) || !slices.Equal(got, union(s.p, s.e.Save())) {
		t.Errorf("15.9: the timers are %v, want %v", got, want)
	}
}
