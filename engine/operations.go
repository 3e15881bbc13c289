package engine

import (
	"arrears/api"
	"arrears/ledger"
	"arrears/loan"
)

// change is what an operation makes of the portfolio. It is worked out whole ahead of being taken: so a refusal leaves nothing behind, and Check asks in the very way in which Apply does.
type change struct {
	days    int          // by which today moves on
	loans   []api.Loan   // those that are new, or other than they were
	notices []api.Notice // without their IDs
	nums    []int64      // the reply's
}

// consider works out what an operation makes of the portfolio as it stands.
func (e *Engine) consider(o api.Op) (change, api.Errno) {
	table := [...]func(o api.Op) (change, api.Errno){
		api.OpOpen:        e.open,
		api.OpPay:         e.pay,
		api.OpReturn:      e.takeBack,
		api.OpRefund:      e.refund,
		api.OpWaive:       e.waive,
		api.OpPromise:     e.promise,
		api.OpRestructure: e.restructure,
		api.OpDay:         e.pass,
	}
	// Number 0 is no kind, and nothing lies there.
	if o.Kind < 1 || o.Kind >= len(table) {
		return change{}, api.ErrKind
	}
	return table[o.Kind](o)
}

// take makes a change.
func (e *Engine) take(c change) {
	e.today += c.days
	for _, l := range c.loans {
		e.put(l)
	}
	for _, n := range c.notices {
		n.ID = len(e.notices) + 1
		e.notices = append(e.notices, n)
	}
}

// changed is the change that a call makes of one loan.
func (e *Engine) changed(number int, call func(l api.Loan) api.Outcome, tell func(o api.Outcome) []int64) (change, api.Errno) {
	l, there := e.loans[number]
	if !there {
		return change{}, api.ErrNoLoan
	}
	return changeOf(call(l), tell)
}

// changeOf is the change of what a call of the layer below answered, and what is told of it.
func changeOf(o api.Outcome, tell func(o api.Outcome) []int64) (change, api.Errno) {
	if o.Err != api.OK {
		return change{}, o.Err
	}
	return change{loans: []api.Loan{o.Loan}, notices: o.Notices, nums: tell(o)}, api.OK
}

// open lets a new loan join the portfolio.
func (e *Engine) open(o api.Op) (change, api.Errno) {
	if !isNumber(o.Loan) {
		return change{}, api.ErrArg
	}
	if _, there := e.loans[o.Loan]; there {
		return change{}, api.ErrExists
	}
	if len(e.loans) >= api.MaxLoans {
		return change{}, api.ErrCrowd
	}
	terms := api.Terms{Kind: o.Days, Principal: o.Amount, Rate: o.Rate, Count: o.Count, Start: e.today, Rule: e.policy.Rule}
	return changeOf(loan.Open(e.policy, o.Loan, terms), func(opened api.Outcome) []int64 {
		return ofPlan(opened.Loan.Plan)
	})
}

// pay takes a payment. One with a trace number is taken only if none with that number or a later one was.
func (e *Engine) pay(o api.Op) (change, api.Errno) {
	return e.changed(o.Loan, func(l api.Loan) api.Outcome {
		if o.Count < 0 {
			return api.Outcome{Err: api.ErrArg}
		}
		if o.Count > 0 && o.Count <= l.Trace {
			return api.Outcome{Err: api.ErrExists}
		}
		paid := loan.Pay(e.policy, l, o.Amount)
		if o.Count > 0 {
			paid.Loan.Trace = o.Count
		}
		return paid
	}, func(paid api.Outcome) []int64 {
		p := paid.Parts
		return []int64{p.Fees, p.Interest, p.Principal, p.Unapplied, p.Recovery, status(paid.Loan)}
	})
}

// takeBack gives the last payment back to the bank.
func (e *Engine) takeBack(o api.Op) (change, api.Errno) {
	return e.changed(o.Loan, func(l api.Loan) api.Outcome {
		return loan.Return(e.policy, l)
	}, func(returned api.Outcome) []int64 {
		p := returned.Parts
		// It fits: a loan refuses to take back what does not.
		return []int64{p.Fees + p.Interest + p.Principal + p.Unapplied + p.Recovery, status(returned.Loan)}
	})
}

// refund pays out what was paid too much.
func (e *Engine) refund(o api.Op) (change, api.Errno) {
	return e.changed(o.Loan, func(l api.Loan) api.Outcome {
		return loan.Refund(e.policy, l, o.Amount)
	}, func(refunded api.Outcome) []int64 {
		return []int64{balance(refunded.Loan, api.Unapplied)}
	})
}

// waive lets fees go.
func (e *Engine) waive(o api.Op) (change, api.Errno) {
	return e.changed(o.Loan, func(l api.Loan) api.Outcome {
		return loan.Waive(e.policy, l, o.Amount)
	}, func(waived api.Outcome) []int64 {
		return []int64{balance(waived.Loan, api.Fees), status(waived.Loan)}
	})
}

// promise takes a promise to pay.
func (e *Engine) promise(o api.Op) (change, api.Errno) {
	return e.changed(o.Loan, func(l api.Loan) api.Outcome {
		return loan.Promise(e.policy, l, o.Amount, o.Days)
	}, func(promised api.Outcome) []int64 {
		c := promised.Loan.Case
		return []int64{int64(c.PromiseDue), int64(c.Deadline)}
	})
}

// restructure gives a loan a new plan.
func (e *Engine) restructure(o api.Op) (change, api.Errno) {
	return e.changed(o.Loan, func(l api.Loan) api.Outcome {
		return loan.Restructure(e.policy, l, o.Count, o.Rate)
	}, func(renewed api.Outcome) []int64 {
		return append([]int64{renewed.Loan.Terms.Principal}, ofPlan(renewed.Loan.Plan)...)
	})
}

// pass leads all loans some days on. They go on a trial: where one of them cannot, none has.
func (e *Engine) pass(o api.Op) (change, api.Errno) {
	if o.Days < 1 || o.Days > api.MaxSpan {
		return change{}, api.ErrArg
	}
	last := e.today + o.Days
	if last > api.MaxDay {
		return change{}, api.ErrDate
	}
	loans, notices, why := e.trial().lead(last)
	if why != api.OK {
		return change{}, why
	}
	nums := []int64{int64(last), int64(len(notices))}
	return change{days: o.Days, loans: loans, notices: notices, nums: nums}, api.OK
}

// ofPlan tells of a new plan how many rows it has, when the first one is due, and with what.
func ofPlan(plan []api.Instalment) []int64 {
	first := plan[0]
	return []int64{int64(len(plan)), int64(first.Due), first.Interest + first.Principal}
}

// balance is what stands on an account's own side. No loan that a call has let go has a book that refuses it.
func balance(l api.Loan, account int) int64 {
	cents, _ := ledger.Balance(l.Book, account)
	return cents
}

// status is a loan's, as a reply tells it.
func status(l api.Loan) int64 {
	return int64(l.Case.Status)
}
