package backdate

import (
	"arrears/api"
	"arrears/engine"
)

// replay is a history played twice.
type replay struct {
	was   *engine.Engine // the portfolio as it is left
	then  *engine.Engine // as it would be, if the operation had been done then
	upset []int          // the places of what is taken in the one and refused in the other
}

// playTwice plays a history as it is, and with an operation at the end of a day. Up to there the two are one.
func playTwice(p api.Policy, ops []api.Op, day int, o api.Op) (replay, api.Errno) {
	c, was, why := find(p, ops, day, o)
	if why != api.OK {
		return replay{}, why
	}
	// Load takes what Save told.
	then, _ := engine.Load(p, was.Save())
	then.Apply(o)
	r := replay{was: was, then: then}
	_, back := c.divide(ops)
	// Of a day operation that is divided the first part is taken in both: the rest tells of the whole.
	for i, next := range back {
		taken := was.Apply(next).Err == api.OK
		if taken != (then.Apply(next).Err == api.OK) {
			r.upset = append(r.upset, c.place+i)
		}
	}
	return r, api.OK
}

// loanOf is the loan of that number.
func loanOf(e *engine.Engine, number int) api.Loan {
	for _, l := range e.Save().Loans {
		if l.ID == number {
			return l
		}
	}
	return api.Loan{}
}
