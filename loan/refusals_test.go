package loan_test

import (
	"math/rand"
	"slices"
	"testing"

	"arrears/api"
	"arrears/loan"
)

// illMade is a loan that no call answered: numbers at their ends stand in some of its fields.
func illMade(random *rand.Rand, sound api.Loan) api.Loan {
	l := sound
	l.Plan = slices.Clone(l.Plan)
	numbers := []int{least, least + 1, -1, 0, 1, api.MaxDay, most - 1, most}
	wild := func() int { return among(random, numbers...) }
	cents := func() int64 { return int64(wild()) }
	for range 1 + random.Intn(4) {
		switch random.Intn(12) {
		case 0:
			l.Day = wild()
		case 1:
			l.Carry = cents()
		case 2:
			l.Applied = cents()
		case 3:
			l.Last, l.HasLast = api.Parts{Fees: cents(), Interest: cents(), Principal: cents(), Unapplied: cents(), Recovery: cents()}, true
		case 4:
			l.ChargedOff = cents()
		case 5, 6, 7:
			l.Book.Net[random.Intn(api.Accounts)] = cents()
		case 8:
			l.Terms = api.Terms{Kind: wild(), Principal: cents(), Rate: cents(), Count: wild(), Start: wild(), Rule: wild()}
		case 9:
			l.Case = api.Case{
				Status: random.Intn(12) - 1, Suspended: random.Intn(2) == 0, Cycles: wild(), Since: wild(), Deadline: wild(), Promises: wild(),
				PromiseDue: wild(), PromiseAmount: cents(), PromiseGot: cents(), Kept: wild(), Broken: wild(), Cures: wild(), Restructures: wild(),
				CycleFees: cents(), LifeFees: cents(),
			}
		case 10:
			l.Plan = append(l.Plan, api.Instalment{Due: wild(), Interest: cents(), Principal: cents()})
		case 11:
			l.Plan = nil
		}
	}
	return l
}

// 14: of a loan that no call made every call ends and none panics; what is refused is answered with the loan as it was.
func TestIllMadeLoans(t *testing.T) {
	random := rand.New(rand.NewSource(1400))
	sound := loans(t)
	errors := map[api.Errno]int{}
	for range 20000 {
		l := illMade(random, among(random, sound...))
		p := strict()
		p.Order = random.Intn(6)
		kept := slices.Clone(l.Plan)
		more := []call{
			{"Pay the most", func(p api.Policy, l api.Loan) api.Outcome { return loan.Pay(p, l, most) }},
			{"Accrue the most", func(p api.Policy, l api.Loan) api.Outcome { return loan.Accrue(p, l, most) }},
			{"Accrue long", func(p api.Policy, l api.Loan) api.Outcome { return loan.Accrue(p, l, api.MaxDay) }},
			{"Refund the most", func(p api.Policy, l api.Loan) api.Outcome { return loan.Refund(p, l, most) }},
		}
		for _, c := range slices.Concat(calls(), refused(), more) {
			o := c.do(p, l)
			errors[o.Err]++
			if o.Err != api.OK && !sameOutcome(o, api.Outcome{Loan: l, Err: o.Err}) {
				t.Fatalf("14: %s of %+v is refused with %+v", c.name, l, o)
			}
		}
		loan.Timers(p, l)
		loan.Look(p, l)
		if !slices.Equal(l.Plan, kept) {
			t.Fatalf("14: the plan that was handed in is changed: %v", l.Plan)
		}
	}
	if errors[api.ErrRange] < 100 || errors[api.ErrSide] < 100 {
		t.Errorf("few books or sums were ill: %v", errors)
	}
}

// 14: a policy that may not be is refused ahead of all else, whatever the loan and the numbers are.
func TestPolicyIsFirst(t *testing.T) {
	random := rand.New(rand.NewSource(1401))
	bad := []api.Policy{
		{},
		with(func(p *api.Policy) { p.FirstDay = 0 }),
		with(func(p *api.Policy) { p.Grace = 31 }),
		with(func(p *api.Policy) { p.LifeCap = -1 }),
		with(func(p *api.Policy) { p.Order = 6 }),
		with(func(p *api.Policy) { p.SnapEvery = 1001 }),
		with(func(p *api.Policy) { p.Holidays = []int{7, 7} }),
	}
	list := append(loans(t), api.Loan{})
	for range 50 {
		list = append(list, illMade(random, among(random, list...)))
	}
	for _, p := range bad {
		for _, l := range list {
			for _, c := range slices.Concat(calls(), refused()) {
				if o := c.do(p, l); !sameOutcome(o, api.Outcome{Loan: l, Err: api.ErrPolicy}) {
					t.Errorf("14: %s under a policy that may not be: %+v", c.name, o)
				}
			}
			if loan.Look(p, l) != (api.View{}) || len(loan.Timers(p, l)) != 0 {
				t.Errorf("14: under a policy that may not be there is a view or a timer of %+v", l)
			}
		}
	}
}

// fault is something that may be amiss, and its error.
type fault struct {
	there bool
	why   api.Errno
}

// first is the error of the first fault that is there.
func first(faults ...fault) api.Errno {
	for _, f := range faults {
		if f.there {
			return f.why
		}
	}
	return api.OK
}

// 14: in each status each call is refused, or not, as its promise says; what is refused has changed nothing.
func TestRefusalsInEachStatus(t *testing.T) {
	p := strict()
	for _, l := range loans(t) {
		over := fault{l.Case.Status == api.Closed || l.Case.Status == api.ChargedOff, api.ErrClosed}
		unopened := fault{l.Case.Status < api.Delinquent || l.Case.Status > api.NonAccrual, api.ErrNotOpen}
		want := map[string]api.Errno{
			"Return":      first(over, fault{!l.HasLast, api.ErrNoPay}),
			"Refund":      first(fault{l.Book.Net[api.Unapplied] == 0, api.ErrFunds}),
			"Waive":       first(over, fault{l.Book.Net[api.Fees] == 0, api.ErrFunds}),
			"Promise":     first(over, unopened, fault{l.Case.Status == api.Promised, api.ErrActive}),
			"Restructure": first(over, unopened),

			"Pay 0": api.ErrAmount, "Refund 0": api.ErrAmount, "Waive 0": api.ErrAmount,
			"Promise 0": api.ErrArg, "Restructure 0": api.ErrTerms, "Accrue -1": api.ErrArg,
		}
		for _, c := range slices.Concat(calls(), refused()) {
			o := c.do(p, l)
			if o.Err != want[c.name] {
				t.Errorf("14: %s in the status %d = %d, want %d", c.name, l.Case.Status, o.Err, want[c.name])
			}
			if o.Err != api.OK && !sameOutcome(o, api.Outcome{Loan: l, Err: o.Err}) {
				t.Errorf("14: %s in the status %d is refused with %+v", c.name, l.Case.Status, o)
			}
		}
	}
}
