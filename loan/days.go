package loan

import (
	"arrears/aging"
	"arrears/api"
	"arrears/collect"
	"arrears/interest"
	"arrears/money"
	"arrears/policy"
)

// roll brings the loan to the next day: a day's interest, then what the new day makes of the delinquency, then late fees.
func (d *draft) roll() {
	d.accrue(1)
	if d.over() {
		return
	}
	d.play(api.Event{Kind: api.EventAge, Today: d.loan.Day, Days: d.daysPastDue()})
	// While a promise runs the borrower is let be: rows that are missed meanwhile are looked at behind it.
	if collect.Open(d.loan.Case) && d.loan.Case.Status != api.Promised {
		d.chargeLateFees()
	}
}

// accrue brings the loan so many days on by its interest alone.
func (d *draft) accrue(days int) {
	refuseIf(days < 0, api.ErrArg)
	day, fits := money.Sum([]int{d.loan.Day, days})
	refuseIf(!fits || day > api.MaxDay, api.ErrDate)
	if !d.over() {
		d.earn(days)
	}
	d.loan.Day = day
}

// earn accrues the interest of some days, into suspense while the loan is in non-accrual.
func (d *draft) earn(days int) {
	cents, rest, ok := interest.Span(d.balance(api.Principal), d.loan.Terms.Rate, d.loan.Carry, days)
	refuseIf(!ok, api.ErrRange)
	account := api.Income
	if d.loan.Case.Suspended {
		account = api.Suspense
	}
	d.post(api.Entry{Debit: api.Interest, Credit: account, Amount: cents})
	d.loan.Carry = rest
}

// chargeLateFees looks once at each row that was missed. A row for which the caps left no fee is marked too, so that it gets none later.
func (d *draft) chargeLateFees() {
	missed := aging.Missed(d.loan.Plan, d.position(), d.loan.Day, d.policy.Grace)
	for _, row := range missed {
		d.chargeLateFee(d.loan.Plan[row])
	}
	d.loan.Plan = aging.Mark(d.loan.Plan, missed)
}

// chargeLateFee charges what the caps leave of a row's late fee.
func (d *draft) chargeLateFee(row api.Instalment) {
	amount := sum(row.Interest, row.Principal)
	fee := policy.Assess(d.policy, amount, d.loan.Case.CycleFees, d.loan.Case.LifeFees)
	if fee == 0 {
		return
	}
	d.play(api.Event{Kind: api.EventFee, Amount: fee})
	d.post(api.Entry{Debit: api.Fees, Credit: api.FeeIncome, Amount: fee})
	d.notify(api.NoticeFee, fee)
}
