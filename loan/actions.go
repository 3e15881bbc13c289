package loan

import "arrears/api"

// act does what an action of the case asks of the loan. A promise that was kept asks for nothing, nor does a restructuring: its plan and its moves are made by the call that asked for it.
func (d *draft) act(action int) {
	switch action {
	case api.ActBroken:
		d.notify(api.NoticeBroken, d.pastDue())
	case api.ActDelinquent:
		d.notify(api.NoticeDelinquent, d.pastDue())
	case api.ActNonAccrual:
		d.notify(api.NoticeNonAccrual, d.pastDue())
	case api.ActCured:
		d.post(d.suspenseEarned())
		d.notify(api.NoticeCured, 0)
	case api.ActClosed:
		d.forgetLast()
		d.notify(api.NoticePaidOff, 0)
	case api.ActChargeOff:
		d.chargeOff()
	}
}

// suspenseEarned is the move that makes income of all that is in suspense.
func (d *draft) suspenseEarned() api.Entry {
	return api.Entry{Debit: api.Suspense, Credit: api.Income, Amount: d.balance(api.Suspense)}
}

// chargeOff gives up what is owed. Interest that is still in suspense never was income, so it is taken back and no loss; suspense beyond what is owed of interest was paid, and is earned.
func (d *draft) chargeOff() {
	owed, suspense := d.owed(), d.balance(api.Suspense)
	d.loan.ChargedOff = d.debt()
	unearned := min(suspense, owed.Interest)
	d.post(
		api.Entry{Debit: api.Suspense, Credit: api.Interest, Amount: unearned},
		api.Entry{Debit: api.Suspense, Credit: api.Income, Amount: less(suspense, unearned)},
		api.Entry{Debit: api.Loss, Credit: api.Principal, Amount: owed.Principal},
		api.Entry{Debit: api.Loss, Credit: api.Interest, Amount: less(owed.Interest, unearned)},
		api.Entry{Debit: api.Loss, Credit: api.Fees, Amount: owed.Fees},
	)
	d.forgetLast()
	d.notify(api.NoticeChargedOff, d.loan.ChargedOff)
}

// closeIfPaid closes the loan, if nothing is owed any more.
func (d *draft) closeIfPaid() {
	if d.owed() == (api.Owed{}) {
		d.play(api.Event{Kind: api.EventClose})
	}
}
