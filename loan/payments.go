package loan

import (
	"arrears/api"
	"arrears/waterfall"
)

// pay takes a payment, and lets the case hear of it with the days past due that it leaves.
func (d *draft) pay(amount int64) {
	refuseIf(amount < 1, api.ErrAmount)
	d.parts = d.takenFor(amount)
	d.post(waterfall.Entries(d.parts)...)
	if d.over() {
		return
	}
	d.loan.Applied = sum(d.loan.Applied, d.parts.Interest, d.parts.Principal)
	d.loan.Last, d.loan.HasLast = d.parts, true
	d.play(api.Event{Kind: api.EventPaid, Days: d.daysPastDue(), Amount: amount})
	d.closeIfPaid()
}

// takenFor is what a payment is taken for, as the loan stands.
func (d *draft) takenFor(amount int64) api.Parts {
	switch d.loan.Case.Status {
	case api.Closed:
		return api.Parts{Unapplied: amount}
	case api.ChargedOff:
		return granted(waterfall.Recover(less(d.loan.ChargedOff, d.balance(api.Recovery)), amount))
	}
	return granted(waterfall.Allocate(d.policy.Order, d.owed(), amount))
}

// takeBack gives the last payment back to the bank. Whether the loan is late again is found by the next roll.
func (d *draft) takeBack() {
	refuseIf(d.over(), api.ErrClosed)
	refuseIf(!d.loan.HasLast, api.ErrNoPay)
	last := d.loan.Last
	total := sum(last.Fees, last.Interest, last.Principal, last.Unapplied, last.Recovery)
	d.post(waterfall.Undo(last)...)
	d.loan.Applied = less(d.loan.Applied, sum(last.Interest, last.Principal))
	d.play(api.Event{Kind: api.EventReturned, Amount: total})
	d.parts = last
	d.notify(api.NoticeReturned, total)
	d.forgetLast()
}

// refund pays out what was paid too much.
func (d *draft) refund(amount int64) {
	refuseIf(amount < 1, api.ErrAmount)
	refuseIf(amount > d.balance(api.Unapplied), api.ErrFunds)
	d.post(api.Entry{Debit: api.Unapplied, Credit: api.Cash, Amount: amount})
}

// waive lets fees go, which may leave nothing owed.
func (d *draft) waive(amount int64) {
	refuseIf(amount < 1, api.ErrAmount)
	refuseIf(d.over(), api.ErrClosed)
	refuseIf(amount > d.balance(api.Fees), api.ErrFunds)
	d.post(api.Entry{Debit: api.Waived, Credit: api.Fees, Amount: amount})
	d.closeIfPaid()
}
