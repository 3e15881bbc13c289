package collect_test

import (
	"testing"

	"arrears/api"
	"arrears/collect"
)

// after is a case with a change.
func after(c api.Case, change func(c *api.Case)) api.Case {
	change(&c)
	return c
}

// ended is a case behind the end of its cycle, in that status.
func ended(c api.Case, status int) api.Case {
	return after(c, func(c *api.Case) {
		c.Status, c.Suspended = status, false
		c.Since, c.Deadline, c.Promises, c.CycleFees = 0, 0, 0, 0
		c.PromiseDue, c.PromiseAmount, c.PromiseGot = 0, 0, 0
	})
}

// 13.4: the first and the last day, and any number of days past due from 0 on.
func TestAgeTakesEveryDay(t *testing.T) {
	p := example()
	for _, today := range []int{1, 2, 3652058, 3652059} {
		steps(t, "13.4", p, collect.Fresh(), age(today, 0), collect.Fresh())
		opened := api.Case{Status: api.Delinquent, Cycles: 1, Since: today, Deadline: today + 60}
		steps(t, "13.4", p, collect.Fresh(), age(today, 6), opened, api.ActDelinquent)
	}
	both := api.Case{Status: api.NonAccrual, Suspended: true, Cycles: 1, Since: 9, Deadline: 69}
	steps(t, "13.4", p, collect.Fresh(), age(9, most), both, api.ActDelinquent, api.ActNonAccrual)
}

// 13.4: what the days past due make of each status that has no open cycle, at both sides of the grace.
func TestAgeWithoutCycle(t *testing.T) {
	p := example()
	for _, c := range cases() {
		if isOver(c) || collect.Open(c) {
			continue
		}
		back := c
		if c.Status == api.Grace {
			back.Status = api.Current
		}
		steps(t, "13.4", p, c, age(50, 0), back)
		for _, days := range []int{1, 4, 5} {
			steps(t, "13.4", p, c, age(50, days), after(c, func(c *api.Case) { c.Status = api.Grace }))
		}
		opened := after(c, func(c *api.Case) {
			c.Status, c.Cycles, c.Since, c.Deadline = api.Delinquent, c.Cycles+1, 50, 110
		})
		steps(t, "13.4", p, c, age(50, 6), opened, api.ActDelinquent)
		steps(t, "13.4", p, c, age(50, 29), opened, api.ActDelinquent)
		opened.Status, opened.Suspended = api.NonAccrual, true
		steps(t, "13.4", p, c, age(50, 30), opened, api.ActDelinquent, api.ActNonAccrual)
	}
}

// 13.4: with no grace at all one day past due opens a cycle, and may suspend interest at once.
func TestAgeWithoutGrace(t *testing.T) {
	p := with(func(p *api.Policy) { p.Grace, p.NonAccrual, p.ChargeOff = 0, 1, 1 })
	s := begin(t, p)
	s.does("13.4", age(50, 0), same)
	s.does("13.4", age(51, 1), func(c *api.Case) {
		*c = api.Case{Status: api.NonAccrual, Suspended: true, Cycles: 1, Since: 51, Deadline: 52}
	}, api.ActDelinquent, api.ActNonAccrual)
	s.does("13.4", age(52, 2), func(c *api.Case) { *c = api.Case{Status: api.ChargedOff, Cycles: 1} }, api.ActChargeOff)
}

// 13.4: an open cycle stays open while a day is past due, within the grace too, and is cured where none is.
func TestAgeOfAnOpenCycle(t *testing.T) {
	p := example()
	for _, c := range []api.Case{delinquent(), nonAccrual(), promised()} {
		for _, days := range []int{1, 5, 6, 29} {
			steps(t, "13.4", p, c, age(105, days), c)
		}
		cured := ended(c, api.Cured)
		cured.Cures++
		steps(t, "13.4", p, c, age(105, 0), cured, api.ActCured)
	}
}

// 13.4: a cure goes ahead of the charge-off on the day of the deadline.
func TestCureIsAheadOfChargeOff(t *testing.T) {
	for _, c := range []api.Case{delinquent(), nonAccrual()} {
		for _, today := range []int{159, 160, 161, 3652059} {
			cured := ended(c, api.Cured)
			cured.Cures++
			steps(t, "13.4", example(), c, age(today, 0), cured, api.ActCured)
		}
	}
}

// 13.4: a promise holds through its last day, and is broken on the day behind it.
func TestAgeBreaksPromises(t *testing.T) {
	p, c := example(), promised()
	steps(t, "13.4", p, c, age(109, 9), c)
	steps(t, "13.4", p, c, age(110, 10), c)
	broken := after(c, func(c *api.Case) {
		c.Status, c.Broken = api.Delinquent, 1
		c.PromiseDue, c.PromiseAmount, c.PromiseGot = 0, 0, 0
	})
	steps(t, "13.4", p, c, age(111, 11), broken, api.ActBroken)
	steps(t, "13.4", p, c, age(169, 11), broken, api.ActBroken)

	c.Suspended = true
	broken.Suspended, broken.Status = true, api.NonAccrual
	steps(t, "13.4", p, c, age(110, 90), c)
	steps(t, "13.4", p, c, age(111, 90), broken, api.ActBroken)
}

// 13.4: behind a broken promise the other rules go on, each on what the one before left.
func TestAgeGoesOnBehindABrokenPromise(t *testing.T) {
	p, c := example(), promised()
	cured := ended(c, api.Cured)
	cured.Broken, cured.Cures = 1, 1
	steps(t, "13.4", p, c, age(111, 0), cured, api.ActBroken, api.ActCured)
	steps(t, "13.4", p, c, age(999, 0), cured, api.ActBroken, api.ActCured)

	suspended := after(c, func(c *api.Case) {
		c.Status, c.Suspended, c.Broken = api.NonAccrual, true, 1
		c.PromiseDue, c.PromiseAmount, c.PromiseGot = 0, 0, 0
	})
	steps(t, "13.4", p, c, age(111, 30), suspended, api.ActBroken, api.ActNonAccrual)

	lost := ended(c, api.ChargedOff)
	lost.Broken = 1
	steps(t, "13.4", p, c, age(170, 29), lost, api.ActBroken, api.ActChargeOff)
	steps(t, "13.4", p, c, age(170, 30), lost, api.ActBroken, api.ActNonAccrual, api.ActChargeOff)
}

// 13.4: interest is suspended from the day on that the policy says, once in a cycle, and a promise outlives it.
func TestAgeSuspends(t *testing.T) {
	p := example()
	steps(t, "13.4", p, delinquent(), age(130, 29), delinquent())
	steps(t, "13.4", p, delinquent(), age(130, 30), nonAccrual(), api.ActNonAccrual)
	steps(t, "13.4", p, delinquent(), age(130, 31), nonAccrual(), api.ActNonAccrual)
	steps(t, "13.4", p, nonAccrual(), age(131, 31), nonAccrual())
	steps(t, "13.4", p, nonAccrual(), age(131, 3), nonAccrual())

	steps(t, "13.4", p, promised(), age(110, 29), promised())
	quiet := after(promised(), func(c *api.Case) { c.Suspended = true })
	steps(t, "13.4", p, promised(), age(110, 30), quiet, api.ActNonAccrual)
	steps(t, "13.4", p, quiet, age(110, 31), quiet)
}

// 13.4: the charge-off comes on the deadline or at the first look behind it, also while a promise runs.
func TestAgeChargesOff(t *testing.T) {
	p := example()
	for _, c := range []api.Case{delinquent(), nonAccrual()} {
		steps(t, "13.4", p, c, age(159, 29), c)
		steps(t, "13.4", p, c, age(160, 29), ended(c, api.ChargedOff), api.ActChargeOff)
		steps(t, "13.4", p, c, age(161, 1), ended(c, api.ChargedOff), api.ActChargeOff)
		steps(t, "13.4", p, c, age(3652059, 1), ended(c, api.ChargedOff), api.ActChargeOff)
	}
	steps(t, "13.4", p, delinquent(), age(160, 30), ended(delinquent(), api.ChargedOff), api.ActNonAccrual, api.ActChargeOff)

	long := after(promised(), func(c *api.Case) { c.PromiseDue = 175 })
	steps(t, "13.4", p, long, age(169, 1), long)
	steps(t, "13.4", p, long, age(170, 1), ended(long, api.ChargedOff), api.ActChargeOff)
}

// 13.4: a promise that is made late outlives the deadline that it moved, and the charge-off does not wait for it.
func TestChargeOffUnderAPromise(t *testing.T) {
	s := begin(t, example())
	s.does("13.4", age(100, 6), func(c *api.Case) {
		c.Status, c.Cycles, c.Since, c.Deadline = api.Delinquent, 1, 100, 160
	}, api.ActDelinquent)
	s.does("13.7", promise(165, 7, 10), func(c *api.Case) {
		c.Status, c.Promises, c.PromiseDue, c.PromiseAmount, c.Deadline = api.Promised, 1, 175, 7, 170
	})
	s.does("13.4", age(169, 6), same)
	s.does("13.4", age(170, 6), func(c *api.Case) { *c = api.Case{Status: api.ChargedOff, Cycles: 1} }, api.ActChargeOff)
}
