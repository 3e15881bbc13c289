package loan_test

import (
	"slices"
	"testing"

	"arrears/api"
	"arrears/interest"
	"arrears/loan"
)

// refusesOpen holds Open to an error, with the Loan of zeros.
func refusesOpen(t *testing.T, p api.Policy, id int, terms api.Terms, why api.Errno) {
	t.Helper()
	if o := loan.Open(p, id, terms); !sameOutcome(o, api.Outcome{Err: why}) {
		t.Errorf("14.1: Open(%d, %+v) = %+v, want %d alone", id, terms, o, why)
	}
}

// opens holds Open to a whole new loan.
func opens(t *testing.T, p api.Policy, id int, terms api.Terms) {
	t.Helper()
	plan, ok := interest.Plan(terms, p.Holidays)
	if !ok {
		t.Fatalf("3.5: no plan of %+v", terms)
	}
	want := api.Loan{ID: id, Terms: terms, Plan: plan, Case: api.Case{Status: api.Current}, Day: terms.Start}
	want.Book.Net[api.Principal], want.Book.Net[api.Funding] = terms.Principal, -terms.Principal
	if o := loan.Open(p, id, terms); !sameOutcome(o, api.Outcome{Loan: want}) {
		t.Errorf("14.1: Open(%d, %+v) = %+v, want %+v", id, terms, o, want)
	}
}

// termsWith are the terms of the loan A with a change.
func termsWith(change func(t *api.Terms)) api.Terms {
	t := termsA()
	change(&t)
	return t
}

// 14.1: the terms' fields at their ends, on both sides of them.
func TestOpenTermsAtTheirEnds(t *testing.T) {
	fields := []struct {
		set       func(t *api.Terms, n int64)
		low, high int64
	}{
		{func(t *api.Terms, n int64) { t.Kind = int(n) }, 0, 2},
		{func(t *api.Terms, n int64) { t.Principal = n }, 1, 10000000000000},
		{func(t *api.Terms, n int64) { t.Rate = n }, 0, 100000},
		{func(t *api.Terms, n int64) { t.Count = int(n) }, 1, 120},
		{func(t *api.Terms, n int64) { t.Rule = int(n) }, 0, 3},
	}
	for _, f := range fields {
		for _, n := range []int64{f.low, f.low + 1, f.high - 1, f.high} {
			opens(t, example(), 1, termsWith(func(t *api.Terms) { f.set(t, n) }))
		}
		for _, n := range []int64{least, -7, f.low - 1, f.high + 1, most} {
			refusesOpen(t, example(), 1, termsWith(func(t *api.Terms) { f.set(t, n) }), api.ErrTerms)
		}
	}
	for _, start := range []int{1, 31, 730179, 3651900} {
		opens(t, example(), 1, termsWith(func(t *api.Terms) { t.Start = start }))
	}
	for _, start := range []int{least, -1, 0, 3652060, most} {
		refusesOpen(t, example(), 1, termsWith(func(t *api.Terms) { t.Start = start }), api.ErrTerms)
	}
}

// 14.1: the loan's number at its ends.
func TestOpenNumbers(t *testing.T) {
	for _, id := range []int{1, 2, 999998, 999999} {
		opens(t, example(), id, termsA())
	}
	for _, id := range []int{least, -1, 0, 1000000, most} {
		refusesOpen(t, example(), id, termsA(), api.ErrArg)
	}
}

// 14.1: a plan that runs out of the calendar, or finds no business day, is refused by its date.
func TestOpenDates(t *testing.T) {
	// 9999-10-31 is two months ahead of the last day.
	lastStart := 3652059 - 61
	opens(t, example(), 1, termsWith(func(t *api.Terms) { t.Start = lastStart }))
	refusesOpen(t, example(), 1, termsWith(func(t *api.Terms) { t.Start = lastStart + 1 }), api.ErrDate)
	refusesOpen(t, example(), 1, termsWith(func(t *api.Terms) { t.Start, t.Count = lastStart, 3 }), api.ErrDate)
	refusesOpen(t, example(), 1, termsWith(func(t *api.Terms) { t.Start = 3652059 }), api.ErrDate)

	shut := with(func(p *api.Policy) { p.Holidays = days(738031, 738041) })
	following := termsWith(func(t *api.Terms) { t.Rule = api.RuleFollowing })
	refusesOpen(t, shut, 1, following, api.ErrDate)
	opens(t, shut, 1, termsA())
	opens(t, example(), 1, following)
}

// days are all from one to another.
func days(from, to int) []int {
	var list []int
	for day := from; day <= to; day++ {
		list = append(list, day)
	}
	return list
}

// 14.1: the terms' own rule moves the due days, by the policy's holidays; the policy's rule does nothing here.
func TestOpenHolidays(t *testing.T) {
	p := with(func(p *api.Policy) { p.Holidays, p.Rule = []int{738033}, api.RulePreceding })
	// 738031 is a Sunday.
	for rule, due := range map[int]int{api.RuleNone: 738031, api.RuleFollowing: 738032, api.RulePreceding: 738029} {
		terms := termsWith(func(t *api.Terms) { t.Rule = rule })
		opens(t, p, 1, terms)
		if got := loan.Open(p, 1, terms).Loan.Plan[0].Due; got != due {
			t.Errorf("14.1: by the rule %d the first row is due on %d, want %d", rule, got, due)
		}
	}
	p.Holidays = []int{738032}
	terms := termsWith(func(t *api.Terms) { t.Rule = api.RuleFollowing })
	if got := loan.Open(p, 1, terms).Loan.Plan[0].Due; got != 738033 {
		t.Errorf("14.1: with a holiday the first row is due on %d, want 738033", got)
	}
}

// 14.1: the errors come in their order, whatever else is wrong.
func TestOpenErrorsInOrder(t *testing.T) {
	bad := with(func(p *api.Policy) { p.Grace = 31 })
	ill := termsWith(func(t *api.Terms) { t.Count, t.Start = 0, 3652059 })
	late := termsWith(func(t *api.Terms) { t.Start = 3652059 })
	for _, id := range []int{0, 1} {
		for _, terms := range []api.Terms{termsA(), ill, late, {}} {
			refusesOpen(t, bad, id, terms, api.ErrPolicy)
		}
	}
	refusesOpen(t, example(), 0, ill, api.ErrArg)
	refusesOpen(t, example(), 0, late, api.ErrArg)
	refusesOpen(t, example(), 1, ill, api.ErrTerms)
	refusesOpen(t, example(), 1, late, api.ErrDate)
	refusesOpen(t, example(), 1, api.Terms{}, api.ErrTerms)
}

// 14.1: a loan of each kind, and one that may start ahead of the policy's first day: its own Start alone counts.
func TestOpenKinds(t *testing.T) {
	p := with(func(p *api.Policy) { p.FirstDay = 800000 })
	for kind := range 3 {
		for _, count := range []int{1, 12, 120} {
			opens(t, p, 7, api.Terms{Kind: kind, Principal: 1000001, Rate: 725, Count: count, Start: 738000, Rule: 3})
		}
		opens(t, p, 7, api.Terms{Kind: kind, Principal: 1, Rate: 0, Count: 120, Start: 1})
		opens(t, p, 7, api.Terms{Kind: kind, Principal: api.MaxPrincipal, Rate: api.MaxRate, Count: 120, Start: 1})
	}
}

// 14.1: two loans of the same terms share no memory.
func TestOpenPlansAreTheirOwn(t *testing.T) {
	first := loan.Open(example(), 1, termsA()).Loan
	kept := slices.Clone(first.Plan)
	second := loan.Open(example(), 1, termsA()).Loan
	second.Plan[0].Due = 5
	if !slices.Equal(first.Plan, kept) {
		t.Errorf("14.1: two loans share their plan: %v", first.Plan)
	}
}
