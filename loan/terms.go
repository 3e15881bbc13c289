package loan

import (
	"cmp"

	"arrears/api"
	"arrears/collect"
	"arrears/interest"
)

// open makes a new loan of the draft.
func (d *draft) open(id int, t api.Terms) {
	refuseIf(!within(id, 1, api.MaxLoan), api.ErrArg)
	refuseIf(!termsMayBe(t), api.ErrTerms)
	d.loan = api.Loan{ID: id, Terms: t, Plan: d.planOf(t), Case: collect.Fresh(), Day: t.Start}
	d.post(api.Entry{Debit: api.Principal, Credit: api.Funding, Amount: t.Principal})
}

// promise takes a promise to pay, of which the case alone needs to know.
func (d *draft) promise(amount int64, days int) {
	d.play(api.Event{Kind: api.EventPromise, Today: d.loan.Day, Days: days, Amount: amount})
}

// restructure makes all that is owed the principal of a new plan that starts today.
func (d *draft) restructure(count int, rate int64) {
	refuseIf(!countMayBe(count) || !rateMayBe(rate), api.ErrTerms)
	d.play(api.Event{Kind: api.EventRestructure})
	old, principal := d.loan.Terms, d.debt()
	refuseIf(principal > api.MaxPrincipal, api.ErrRange)
	d.loan.Terms = api.Terms{Kind: old.Kind, Principal: principal, Rate: rate, Count: count, Start: d.loan.Day, Rule: old.Rule}
	d.loan.Plan = d.planOf(d.loan.Terms)
	d.post(
		api.Entry{Debit: api.Principal, Credit: api.Interest, Amount: d.balance(api.Interest)},
		api.Entry{Debit: api.Principal, Credit: api.Fees, Amount: d.balance(api.Fees)},
		d.suspenseEarned(),
	)
	d.loan.Applied = 0
	d.forgetLast()
	d.notify(api.NoticeRestructured, principal)
}

// planOf is the plan of terms that may be.
func (d *draft) planOf(t api.Terms) []api.Instalment {
	plan, ok := interest.Plan(t, d.policy.Holidays)
	refuseIf(!ok, api.ErrDate)
	return plan
}

// termsMayBe tells whether terms may be. Asked ahead of the plan, for that says only that there is none.
func termsMayBe(t api.Terms) bool {
	return within(t.Kind, api.PlanLevel, api.PlanBalloon) &&
		within(t.Principal, 1, api.MaxPrincipal) &&
		rateMayBe(t.Rate) && countMayBe(t.Count) &&
		within(t.Start, 1, api.MaxDay) &&
		within(t.Rule, api.RuleNone, api.RuleModified)
}

func rateMayBe(rate int64) bool {
	return within(rate, 0, api.MaxRate)
}

func countMayBe(count int) bool {
	return within(count, 1, api.MaxTerm)
}

// within tells whether a number is from low to high.
func within[T cmp.Ordered](n, low, high T) bool {
	return low <= n && n <= high
}
