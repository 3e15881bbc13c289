package loan

import (
	"cmp"
	"slices"

	"arrears/aging"
	"arrears/api"
	"arrears/collect"
)

// timers lists the days on which a roll does more than accrue.
func (d *draft) timers() []api.Timer {
	if d.over() {
		return nil
	}
	var timers []api.Timer
	set := func(kind, day int) {
		timers = append(timers, api.Timer{Day: day, Loan: d.loan.ID, Kind: kind})
	}
	if collect.Open(d.loan.Case) {
		d.setOfCycle(set)
	} else if day, ok := d.reach(d.nextAge()); ok {
		set(api.TimerAge, day)
	}
	// All are of one loan.
	slices.SortFunc(timers, func(a, b api.Timer) int {
		return cmp.Or(cmp.Compare(a.Day, b.Day), cmp.Compare(a.Kind, b.Kind))
	})
	return timers
}

// setOfCycle sets the timers that an open cycle has.
func (d *draft) setOfCycle(set func(kind, day int)) {
	if d.loan.Case.Status == api.Promised {
		set(api.TimerPromise, d.loan.Case.PromiseDue+1)
	}
	if !d.loan.Case.Suspended {
		if day, ok := d.reach(d.policy.NonAccrual); ok {
			set(api.TimerNonAccrual, day)
		}
	}
	set(api.TimerChargeOff, d.loan.Case.Deadline)
	if day, ok := d.feeDay(); ok {
		set(api.TimerFee, day)
	}
}

// reach is the next day with so many days past due, if nothing is paid.
func (d *draft) reach(days int) (int, bool) {
	return aging.Reach(d.loan.Plan, d.position(), d.loan.Day, days)
}

// nextAge is how many days past due next change the status of a loan without an open cycle.
func (d *draft) nextAge() int {
	if d.loan.Case.Status == api.Grace {
		return d.policy.Grace + 1
	}
	return 1
}

// feeDay is the day on which a late fee is looked at next, in an open cycle.
func (d *draft) feeDay() (int, bool) {
	oldest, ok := d.oldest()
	if !ok {
		return 0, false
	}
	for _, row := range d.loan.Plan[oldest:] {
		if !row.Marked {
			// Without a promise PromiseDue is 0, and counts for nothing here.
			return max(row.Due+d.policy.Grace+1, d.loan.Day+1, d.loan.Case.PromiseDue+1), true
		}
	}
	return 0, false
}

// oldest is the first row that is not satisfied.
func (d *draft) oldest() (int, bool) {
	return aging.Oldest(d.loan.Plan, d.position())
}

// nextDue is the day on which the oldest row that is not satisfied is due, 0 if all are.
func (d *draft) nextDue() int {
	oldest, ok := d.oldest()
	if !ok {
		return 0
	}
	return d.loan.Plan[oldest].Due
}

// view tells the loan as a query does.
func (d *draft) view() api.View {
	c, days := d.loan.Case, d.daysPastDue()
	return api.View{
		Status:       c.Status,
		Days:         days,
		Bucket:       aging.Bucket(days),
		PastDue:      d.pastDue(),
		Fees:         d.balance(api.Fees),
		Interest:     d.balance(api.Interest),
		Principal:    d.balance(api.Principal),
		Unapplied:    d.balance(api.Unapplied),
		Suspense:     d.balance(api.Suspense),
		Cycles:       c.Cycles,
		Cures:        c.Cures,
		Kept:         c.Kept,
		Broken:       c.Broken,
		Restructures: c.Restructures,
		Promises:     c.Promises,
		PromiseDue:   c.PromiseDue,
		Deadline:     c.Deadline,
		NextDue:      d.nextDue(),
		LifeFees:     c.LifeFees,
		ChargedOff:   d.loan.ChargedOff,
		Recovered:    d.balance(api.Recovery),
	}
}
