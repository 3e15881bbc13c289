package loan

import (
	"slices"

	"arrears/aging"
	"arrears/api"
	"arrears/collect"
	"arrears/ledger"
	"arrears/money"
	"arrears/policy"
)

// draft is a loan that a call is at work on. It is the answer only once the whole call is done: where something deep inside gives up, it is dropped with all that was done to it.
type draft struct {
	policy  api.Policy
	loan    api.Loan
	parts   api.Parts
	notices []api.Notice
}

// attempt is the face's way in and out: it does the work on a draft, and answers the loan as it was handed in if the work gives up.
func attempt(p api.Policy, l api.Loan, work func(*draft)) (answer api.Outcome) {
	// The draft shares this copy. Its rows are never written to, only replaced, so it stays whole for a refusal.
	l.Plan = slices.Clone(l.Plan)
	defer func() {
		if cause := recover(); cause != nil {
			answer = api.Outcome{Loan: l, Err: reason(cause)}
		}
	}()
	why, _ := policy.Check(p)
	insist(why)
	d := &draft{policy: p, loan: l}
	work(d)
	return api.Outcome{Loan: d.loan, Parts: d.parts, Notices: d.notices}
}

// reason is the error with which the work gave up. It gives up with nothing else; but whatever came, no panic may leave the package.
func reason(cause any) api.Errno {
	if why, ok := cause.(api.Errno); ok {
		return why
	}
	return api.ErrRange
}

// insist gives the whole call up, unless what was asked for was done.
func insist(why api.Errno) {
	if why != api.OK {
		panic(why)
	}
}

// refuseIf gives the whole call up with this error, if there is a fault.
func refuseIf(fault bool, why api.Errno) {
	if fault {
		panic(why)
	}
}

// granted is what a layer below answered; where it refused, the whole call is given up with its error.
func granted[T any](answer T, why api.Errno) T {
	insist(why)
	return answer
}

// sum adds amounts up. Those of loans that were made always fit.
func sum(amounts ...int64) int64 {
	total, fits := money.Sum(amounts)
	refuseIf(!fits, api.ErrRange)
	return total
}

// less takes one amount off another.
func less(amount, off int64) int64 {
	left, fits := money.Sub(amount, off)
	refuseIf(!fits, api.ErrRange)
	return left
}

// over tells whether the loan is closed or charged off.
func (d *draft) over() bool {
	return d.loan.Case.Status == api.Closed || d.loan.Case.Status == api.ChargedOff
}

// balance is what stands on an account's own side.
func (d *draft) balance(account int) int64 {
	return granted(ledger.Balance(d.loan.Book, account))
}

// owed is what is owed, by kind.
func (d *draft) owed() api.Owed {
	return api.Owed{Fees: d.balance(api.Fees), Interest: d.balance(api.Interest), Principal: d.balance(api.Principal)}
}

// debt is the sum of what is owed.
func (d *draft) debt() int64 {
	owed := d.owed()
	return sum(owed.Fees, owed.Interest, owed.Principal)
}

// position is where the loan stands on its plan.
func (d *draft) position() api.Position {
	return api.Position{Applied: d.loan.Applied, Rest: sum(d.balance(api.Interest), d.balance(api.Principal))}
}

// daysPastDue are those of today.
func (d *draft) daysPastDue() int {
	return aging.Days(d.loan.Plan, d.position(), d.loan.Day)
}

// pastDue is the amount that is past due today.
func (d *draft) pastDue() int64 {
	return aging.PastDue(d.loan.Plan, d.position(), d.loan.Day)
}

// post makes moves in the book, all of them or none. Those of 0 are left out, for the ledger refuses an entry without an amount.
func (d *draft) post(moves ...api.Entry) {
	var entries []api.Entry
	for _, m := range moves {
		if m.Amount != 0 {
			entries = append(entries, m)
		}
	}
	d.loan.Book = granted(ledger.Post(d.loan.Book, entries))
}

// notify makes a notice owed to the borrower. Its ID is given where the portfolio's notices are counted.
func (d *draft) notify(kind int, amount int64) {
	d.notices = append(d.notices, api.Notice{Loan: d.loan.ID, Kind: kind, Day: d.loan.Day, Amount: amount})
}

// forgetLast leaves no payment that could be returned.
func (d *draft) forgetLast() {
	d.loan.Last, d.loan.HasLast = api.Parts{}, false
}

// play hands an event to the case, and does what follows from it.
func (d *draft) play(e api.Event) {
	next, actions, why := collect.Step(d.policy, d.loan.Case, e)
	insist(why)
	d.loan.Case = next
	for _, action := range actions {
		d.act(action)
	}
}
