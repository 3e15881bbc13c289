package loan_test

import (
	"slices"
	"testing"

	"arrears/api"
	"arrears/interest"
	"arrears/loan"
)

// 14.8: a day earns its interest on the whole principal, and what is left of a cent is carried on.
func TestRollEarns(t *testing.T) {
	s := begin(t, example(), api.Terms{Kind: api.PlanLevel, Principal: 100, Rate: 500, Count: 120, Start: 738000})
	carry := int64(0)
	for day := 1; day <= 28; day++ {
		carry += 50000
		s.is("14.8", loan.Roll(s.p, s.l), none(), nil, func(l *api.Loan) { l.Day, l.Carry = 738000+day, carry })
	}
	s = begin(t, example(), api.Terms{Kind: api.PlanLevel, Principal: 36499, Rate: 10000, Count: 120, Start: 738000})
	want := []int64{99, 199, 299}
	for day, cents := range want {
		s.is("14.8", loan.Roll(s.p, s.l), none(), nil, func(l *api.Loan) {
			l.Day, l.Carry = 738001+day, 3650000-int64(day+1)*10000
			l.Book.Net[api.Interest], l.Book.Net[api.Income] = cents, -cents
		})
	}
}

// 14.8: interest is of the principal that is left, at the rate of the terms as they stand, and bears none itself.
func TestRollEarnsOnWhatIsLeft(t *testing.T) {
	s := begin(t, example(), termsA())
	s.goes(loan.Pay(s.p, s.l, 1825000))
	s.rolls(10)
	if got := s.l.Book.Net[api.Interest]; got != 5000 {
		t.Errorf("14.8: ten days on half of the principal earned %d, want 5000", got)
	}
	late := late(t, example())
	late.goes(loan.Restructure(late.p, late.l, 5, 0))
	late.rolls(10)
	if got := late.l.Book.Net[api.Interest]; got != 0 {
		t.Errorf("14.8: at a rate of 0 ten days earned %d", got)
	}
}

// 14.8: behind the last day there is none, of a loan that is over neither.
func TestRollAtTheEnd(t *testing.T) {
	s := begin(t, example(), termsWith(func(t *api.Terms) { t.Start = api.MaxDay - 61 }))
	s.goes(loan.Accrue(s.p, s.l, 60))
	over := &story{t, s.p, s.l}
	over.goes(loan.Pay(s.p, s.l, 4000000))
	for _, s := range []*story{s, over} {
		s.goes(loan.Roll(s.p, s.l))
		if s.l.Day != api.MaxDay {
			t.Errorf("14.8: the last day is %d", s.l.Day)
		}
		s.fails("14.8", loan.Roll(s.p, s.l), api.ErrDate)
	}
}

// 14.8, 14.9: a loan that is over has its day moved, and nothing else.
func TestOverDays(t *testing.T) {
	for _, s := range []*story{closed(t, example()), chargedOff(t, strict())} {
		for range 200 {
			s.is("14.8", loan.Roll(s.p, s.l), none(), nil, func(l *api.Loan) { l.Day++ })
		}
		s.is("14.9", loan.Accrue(s.p, s.l, 1000), none(), nil, func(l *api.Loan) { l.Day += 1000 })
		s.is("14.9", loan.Accrue(s.p, s.l, 0), none(), nil, func(l *api.Loan) {})
		s.fails("14.9", loan.Accrue(s.p, s.l, -1), api.ErrArg)
		s.fails("14.9", loan.Accrue(s.p, s.l, api.MaxDay), api.ErrDate)
	}
}

// 14.8: the turns of a loan that nobody pays, each on its day, with the amounts that are past due then.
func TestRollTurns(t *testing.T) {
	p := with(func(p *api.Policy) { p.NonAccrual, p.ChargeOff, p.CycleCap = 20, 40, 15000 })
	s := begin(t, p, termsA())
	s.told("14.8", s.to(738041))
	s.told("14.8", s.to(738042), note(api.NoticeDelinquent, 738042, 1855417), note(api.NoticeFee, 738042, 10000))
	s.told("14.8", s.to(738050))
	s.told("14.8", s.to(738051), note(api.NoticeNonAccrual, 738051, 1855417))
	s.told("14.8", s.to(738072))
	// Of the second fee the cap leaves a half.
	s.told("14.8", s.to(738073), note(api.NoticeFee, 738073, 5000))
	s.told("14.8", s.to(738081))
	s.told("14.8", s.to(738082), note(api.NoticeChargedOff, 738082, 3650000+82000+15000))
	s.nets("14.8", [api.Accounts]int64{
		api.Funding: -3650000, api.Income: -51000, api.FeeIncome: -15000, api.Loss: 3650000 + 51000 + 15000,
	})
}

// 14.8: a promise that is broken is told with what is past due; the row that was missed while it ran gets its fee on that day.
func TestRollBreaks(t *testing.T) {
	s := late(t, example())
	s.to(738065)
	s.goes(loan.Promise(s.p, s.l, 500, 10))
	s.goes(loan.Pay(s.p, s.l, 400))
	s.told("14.8", s.to(738075))
	if s.l.Plan[1].Marked {
		t.Errorf("14.8: a row is marked while a promise runs: %v", s.l.Plan)
	}
	// Of the payment all went to fees: 10000 - 400 are left, and 75000 of interest.
	told := notes(note(api.NoticeBroken, 738076, 3650000+76000), note(api.NoticeFee, 738076, 10000))
	s.is("14.8", loan.Roll(s.p, s.l), none(), told, func(l *api.Loan) {
		l.Day = 738076
		l.Plan[1].Marked = true
		l.Book.Net[api.Interest], l.Book.Net[api.Income] = 76000, -76000
		l.Book.Net[api.Fees], l.Book.Net[api.FeeIncome] = 19600, -20000
		l.Case = api.Case{Status: api.Delinquent, Cycles: 1, Since: 738042, Deadline: 738172, Promises: 1, Broken: 1, CycleFees: 20000, LifeFees: 20000}
	})
}

// 14.8: a day on which a promise is broken, interest suspended and the loan charged off, in this order.
func TestRollAllAtOnce(t *testing.T) {
	p := with(func(p *api.Policy) { p.NonAccrual, p.ChargeOff = 20, 1 })
	s := late(t, p)
	s.goes(loan.Promise(p, s.l, 500, 7))
	s.goes(loan.Pay(p, s.l, 10007))
	s.told("14.8", s.to(738049))
	// The days go by by their interest alone: nobody ages the loan.
	s.goes(loan.Accrue(p, s.l, 50))
	owed := int64(3650000 + 99000 - 7)
	told := notes(note(api.NoticeNonAccrual, 738100, owed+1000), note(api.NoticeChargedOff, 738100, owed+1000))
	if s.l.Case.Status != api.Delinquent || s.l.Case.Kept != 1 {
		t.Fatalf("14.2: %+v", s.l.Case)
	}
	s.is("14.8", loan.Roll(p, s.l), none(), told, func(l *api.Loan) {
		l.Day, l.ChargedOff = 738100, owed+1000
		l.Last, l.HasLast = none(), false
		l.Case = api.Case{Status: api.ChargedOff, Cycles: 1, Kept: 1, LifeFees: 10000}
		l.Book.Net = [api.Accounts]int64{api.Cash: 10007, api.Funding: -3650000, api.Income: -100000, api.FeeIncome: -10000, api.Loss: owed + 1000}
	})

	s = late(t, p)
	s.goes(loan.Promise(p, s.l, 500, 7))
	s.goes(loan.Accrue(p, s.l, 57))
	got := s.rolls(1)
	s.told("14.8", got, note(api.NoticeBroken, 738100, 3750000), note(api.NoticeNonAccrual, 738100, 3750000), note(api.NoticeChargedOff, 738100, 3760000))
}

// 14.8: what is charged off: interest in suspense is taken back, and is no loss; suspense beyond the interest that is owed is income.
func TestChargeOffSuspense(t *testing.T) {
	for _, c := range []struct {
		paid         int64
		income, loss int64
		left         int64
	}{
		// On 738071: fees 10000, interest 71000, of it 20000 in suspense; a day more adds 1000 to both.
		{0, 51000, 3650000 + 51000 + 10000, 3650000 + 72000 + 10000},
		{10000 + 50999, 51000, 3650000 + 1, 3650000 + 21001},
		{10000 + 51000, 51000, 3650000, 3650000 + 21000},
		{10000 + 51001, 51001, 3650000, 3650000 + 20999},
		{10000 + 71000, 71000, 3650000, 3650000 + 1000},
	} {
		s := begin(t, strict(), termsA())
		s.to(738071)
		if c.paid > 0 {
			s.goes(loan.Pay(s.p, s.l, c.paid))
		}
		s.told("14.8", s.rolls(1), note(api.NoticeChargedOff, 738072, c.left))
		s.nets("14.8", [api.Accounts]int64{
			api.Cash: c.paid, api.Funding: -3650000, api.Income: -c.income, api.FeeIncome: -10000, api.Loss: c.loss,
		})
		if s.l.ChargedOff != c.left || s.l.HasLast || s.l.Last != none() {
			t.Errorf("14.8: behind the charge-off: %+v", s.l)
		}
	}
}

// 14.8: rows for which the caps leave nothing are marked without a fee and without a notice.
func TestRollMarksWithoutFee(t *testing.T) {
	for _, p := range []api.Policy{
		with(func(p *api.Policy) { p.CycleCap = 0 }),
		with(func(p *api.Policy) { p.LifeCap = 0 }),
		with(func(p *api.Policy) { p.LateRate, p.LateMin, p.LateMax = 0, 0, 0 }),
	} {
		s := begin(t, p, termsA())
		s.to(738041)
		s.is("14.8", loan.Roll(p, s.l), none(), notes(note(api.NoticeDelinquent, 738042, 1855417)), func(l *api.Loan) {
			l.Day = 738042
			l.Plan[0].Marked = true
			l.Case = api.Case{Status: api.Delinquent, Cycles: 1, Since: 738042, Deadline: 738162}
			l.Book.Net[api.Interest], l.Book.Net[api.Income] = 42000, -42000
		})
	}
}

// 14.8: several rows at once, each with its own fee, till the cap is full; all are marked.
func TestRollSeveralRows(t *testing.T) {
	p := with(func(p *api.Policy) { p.LateMin, p.CycleCap = 0, 11000 })
	terms := api.Terms{Kind: api.PlanEqual, Principal: 400003, Rate: 0, Count: 4, Start: 738000}
	s := begin(t, p, terms)
	s.goes(loan.Accrue(p, s.l, 400))
	told := s.rolls(1)
	s.told("14.8", told,
		note(api.NoticeDelinquent, 738401, 400003), note(api.NoticeNonAccrual, 738401, 400003),
		note(api.NoticeFee, 738401, 5000), note(api.NoticeFee, 738401, 5000), note(api.NoticeFee, 738401, 1000))
	for i, row := range s.l.Plan {
		if !row.Marked {
			t.Errorf("14.8: row %d is not marked", i)
		}
	}
	if s.l.Case.CycleFees != 11000 || s.l.Book.Net[api.Fees] != 11000 || s.l.Book.Net[api.FeeIncome] != -11000 {
		t.Errorf("14.8: fees %+v, %v", s.l.Case, s.l.Book)
	}
}

// 14.8: a fee is of interest and principal part together; rows within the grace, satisfied or marked ones get none.
func TestRollFeeOfTheRow(t *testing.T) {
	p := with(func(p *api.Policy) { p.LateMin, p.LateMax = 0, 1000000; p.CycleCap, p.LifeCap = 1000000, 1000000 })
	s := begin(t, p, termsA())
	s.to(738042)
	// 5 % of 1855417 is 92770.85.
	if s.l.Case.CycleFees != 92771 {
		t.Errorf("14.8: the fee is %d, want 92771", s.l.Case.CycleFees)
	}
	s.told("14.8", s.to(738072))
	// 5 % of 1840208 is 92010.4.
	s.told("14.8", s.to(738073), note(api.NoticeFee, 738073, 92010))
	s.told("14.8", s.to(738120))

	// Paid in part, the row is still missed whole.
	s = begin(t, p, termsA())
	s.to(738040)
	s.goes(loan.Pay(p, s.l, 1000000))
	s.to(738042)
	if s.l.Case.CycleFees != 92771 {
		t.Errorf("14.8: the fee of a row paid in part is %d, want 92771", s.l.Case.CycleFees)
	}
}

// 14.8: a fee that was charged in one cycle counts for the life's cap in the next, not for the cycle's.
func TestRollFeesOfTheLife(t *testing.T) {
	p := with(func(p *api.Policy) { p.CycleCap, p.LifeCap = 8000, 12000 })
	s := begin(t, p, termsA())
	s.told("14.8", s.to(738042), note(api.NoticeDelinquent, 738042, 1855417), note(api.NoticeFee, 738042, 8000))
	s.goes(loan.Pay(p, s.l, 8000+1855417))
	if s.l.Case.Status != api.Cured {
		t.Fatalf("14.2: %+v", s.l.Case)
	}
	rest := int64(3650000 + 42000 - 1855417)
	// Interest since the cure on what is left of the principal.
	earned, _, _ := interest.Span(rest, 1000, 0, 31)
	s.told("14.8", s.to(738073), note(api.NoticeDelinquent, 738073, rest+earned), note(api.NoticeFee, 738073, 4000))
	if s.l.Case.CycleFees != 4000 || s.l.Case.LifeFees != 12000 {
		t.Errorf("14.8: %+v", s.l.Case)
	}
}

// 14.9: days by their interest alone: nothing ages, nothing is told, and suspense is filled while interest is suspended.
func TestAccrue(t *testing.T) {
	s := begin(t, example(), termsA())
	s.is("14.9", loan.Accrue(s.p, s.l, 0), none(), nil, func(l *api.Loan) {})
	s.is("14.9", loan.Accrue(s.p, s.l, 500), none(), nil, func(l *api.Loan) {
		l.Day = 738500
		l.Book.Net[api.Interest], l.Book.Net[api.Income] = 500000, -500000
	})
	s = begin(t, strict(), termsA())
	s.to(738051)
	s.is("14.9", loan.Accrue(s.p, s.l, 500), none(), nil, func(l *api.Loan) {
		l.Day = 738551
		l.Book.Net[api.Interest], l.Book.Net[api.Suspense] = 551000, -500000
	})
	s = begin(t, example(), api.Terms{Kind: api.PlanLevel, Principal: 100, Rate: 500, Count: 120, Start: 738000})
	s.is("14.9", loan.Accrue(s.p, s.l, 72), none(), nil, func(l *api.Loan) { l.Day, l.Carry = 738072, 3600000 })
	s.is("14.9", loan.Accrue(s.p, s.l, 2), none(), nil, func(l *api.Loan) {
		l.Day, l.Carry = 738074, 50000
		l.Book.Net[api.Interest], l.Book.Net[api.Income] = 1, -1
	})
}

// 14.9: its errors, at their ends and in their order.
func TestAccrueRefused(t *testing.T) {
	s := begin(t, example(), termsA())
	for _, days := range []int{least, -1} {
		s.fails("14.9", loan.Accrue(s.p, s.l, days), api.ErrArg)
	}
	for _, days := range []int{api.MaxDay - 738000 + 1, api.MaxDay, most} {
		s.fails("14.9", loan.Accrue(s.p, s.l, days), api.ErrDate)
	}
	s.is("14.9", loan.Accrue(s.p, s.l, api.MaxDay-738000), none(), nil, func(l *api.Loan) {
		l.Day = api.MaxDay
		cents := int64(api.MaxDay-738000) * 1000
		l.Book.Net[api.Interest], l.Book.Net[api.Income] = cents, -cents
	})
	s.is("14.9", loan.Accrue(s.p, s.l, 0), none(), nil, func(l *api.Loan) {})
	s.fails("14.9", loan.Accrue(s.p, s.l, 1), api.ErrDate)
	s.fails("14.9", loan.Accrue(s.p, s.l, -1), api.ErrArg)
}

// 14.9, 14.12: the greatest loan at the greatest rate through the whole calendar stays within its range, and may still be given up.
func TestAccrueTheGreatest(t *testing.T) {
	p := with(func(p *api.Policy) { p.ChargeOff = 1 })
	s := begin(t, p, api.Terms{Kind: api.PlanBalloon, Principal: api.MaxPrincipal, Rate: api.MaxRate, Count: 1, Start: 1})
	s.goes(loan.Accrue(p, s.l, api.MaxDay-3))
	cents, rest, _ := interest.Span(api.MaxPrincipal, api.MaxRate, 0, api.MaxDay-3)
	if s.l.Book.Net[api.Interest] != cents || s.l.Carry != rest || cents < 1000000000000000000 {
		t.Errorf("14.9: %d, carry %d, want %d, %d", s.l.Book.Net[api.Interest], s.l.Carry, cents, rest)
	}
	s.rolls(1)
	got := s.rolls(1)
	if len(got) != 1 || got[0].Kind != api.NoticeChargedOff || got[0].Amount <= cents {
		t.Errorf("14.8: the greatest loan given up: %+v, %+v", got, s.l.Case)
	}
	if !slices.Equal(loan.Timers(p, s.l), nil) || s.l.Case.Status != api.ChargedOff {
		t.Errorf("14.8: %+v", s.l.Case)
	}
}
