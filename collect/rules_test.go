package collect_test

import (
	"testing"

	"arrears/api"
	"arrears/collect"
)

// 13.5: what a payment makes of each status, with and without days past due behind it.
func TestPaidInEachStatus(t *testing.T) {
	p := example()
	for _, c := range cases() {
		if isOver(c) {
			continue
		}
		if c.Status == api.Promised {
			steps(t, "13.5", p, c, paid(1, 1), after(c, func(c *api.Case) { c.PromiseGot++ }))
		} else {
			steps(t, "13.5", p, c, paid(1, 1), c)
			steps(t, "13.5", p, c, paid(most, most), c)
		}
		switch {
		case collect.Open(c):
			cured := ended(c, api.Cured)
			cured.Cures++
			steps(t, "13.5", p, c, paid(1, 0), cured, api.ActCured)
		case c.Status == api.Grace:
			steps(t, "13.5", p, c, paid(1, 0), after(c, func(c *api.Case) { c.Status = api.Current }))
		default:
			steps(t, "13.5", p, c, paid(1, 0), c)
		}
	}
}

// 13.5: a promise is kept by the payment that fills it, not by the cent ahead; what is too much is let go.
func TestPaidFillsPromises(t *testing.T) {
	p, c := example(), promised()
	steps(t, "13.5", p, c, paid(299, 9), after(c, func(c *api.Case) { c.PromiseGot = 499 }))
	kept := after(c, func(c *api.Case) {
		c.Status, c.Kept = api.Delinquent, 1
		c.PromiseDue, c.PromiseAmount, c.PromiseGot = 0, 0, 0
	})
	for _, amount := range []int64{300, 301, 500, most - 200, most - 199, most} {
		steps(t, "13.5", p, c, paid(amount, 9), kept, api.ActKept)
	}

	suspended := after(c, func(c *api.Case) { c.Suspended = true })
	behind := after(kept, func(c *api.Case) { c.Suspended, c.Status = true, api.NonAccrual })
	steps(t, "13.5", p, suspended, paid(300, 40), behind, api.ActKept)

	cured := ended(c, api.Cured)
	cured.Kept, cured.Cures = 1, 1
	steps(t, "13.5", p, c, paid(300, 0), cured, api.ActKept, api.ActCured)
	steps(t, "13.5", p, suspended, paid(most, 0), cured, api.ActKept, api.ActCured)
}

// 13.5: the greatest promise there is fills up without a wrap.
func TestPaidFillsTheGreatestPromise(t *testing.T) {
	c := after(promised(), func(c *api.Case) { c.PromiseAmount, c.PromiseGot = most, 0 })
	steps(t, "13.5", example(), c, paid(most-1, 9), after(c, func(c *api.Case) { c.PromiseGot = most - 1 }))
	c.PromiseGot = most - 1
	kept := after(c, func(c *api.Case) {
		c.Status, c.Kept, c.PromiseDue, c.PromiseAmount, c.PromiseGot = api.Delinquent, 1, 0, 0, 0
	})
	steps(t, "13.5", example(), c, paid(1, 9), kept, api.ActKept)
	steps(t, "13.5", example(), c, paid(most, 9), kept, api.ActKept)
}

// 13.6: a payment that is taken back lowers what came of a promise, at most to 0, and else does nothing.
func TestReturned(t *testing.T) {
	p := example()
	for _, c := range cases() {
		if isOver(c) {
			continue
		}
		for _, amount := range []int64{1, 199, 200, 201, most} {
			want := c
			if c.Status == api.Promised {
				want.PromiseGot = max(0, 200-amount)
			}
			steps(t, "13.6", p, c, returned(amount), want)
		}
	}
	bare := after(promised(), func(c *api.Case) { c.PromiseGot = 0 })
	steps(t, "13.6", p, bare, returned(most), bare)
}

// 13.7: promises are taken in both statuses of a cycle without one, with the greatest and the least numbers.
func TestPromises(t *testing.T) {
	p := example()
	for _, c := range []api.Case{delinquent(), nonAccrual()} {
		for _, today := range []int{1, 105, 3652059} {
			for _, days := range []int{1, 2, 9, 10} {
				for _, amount := range []int64{1, 500, most} {
					want := after(c, func(c *api.Case) {
						c.Status, c.Promises, c.PromiseDue, c.PromiseAmount = api.Promised, 1, today+days, amount
						c.Deadline = 160 + days
					})
					steps(t, "13.7", p, c, promise(today, amount, days), want)
				}
			}
		}
	}
}

// 13.7: so many promises are taken in a cycle as the policy says, and the next cycle begins anew.
func TestPromiseBudget(t *testing.T) {
	for _, budget := range []int{0, 1, 2, 8} {
		s := begin(t, with(func(p *api.Policy) { p.Promises = budget }))
		for cycle := 1; cycle <= 2; cycle++ {
			s.does("13.4", age(200*cycle, 6), func(c *api.Case) {
				c.Status, c.Cycles, c.Since, c.Deadline = api.Delinquent, cycle, 200*cycle, 200*cycle+60
			}, api.ActDelinquent)
			for n := 1; n <= budget; n++ {
				s.does("13.7", promise(200*cycle, 5, 3), func(c *api.Case) {
					c.Status, c.Promises, c.PromiseDue, c.PromiseAmount = api.Promised, n, 200*cycle+3, 5
					c.Deadline += 3
				})
				s.does("13.5", paid(5, 6), func(c *api.Case) {
					c.Status, c.Kept, c.PromiseDue, c.PromiseAmount = api.Delinquent, c.Kept+1, 0, 0
				}, api.ActKept)
			}
			s.fails("13.7", promise(200*cycle, 5, 3), api.ErrBudget)
			s.does("13.5", paid(5, 0), func(c *api.Case) {
				c.Cures++
				*c = ended(*c, api.Cured)
			}, api.ActCured)
		}
	}
}

// 13.7: the policy of the call counts, also where a case has taken more promises under another one.
func TestPromiseUnderAnotherPolicy(t *testing.T) {
	c := after(delinquent(), func(c *api.Case) { c.Promises = 3 })
	for _, budget := range []int{0, 1, 2, 3} {
		p := with(func(p *api.Policy) { p.Promises = budget })
		refuses(t, "13.7", p, c, promise(105, 1, 1), api.ErrBudget)
	}
	p := with(func(p *api.Policy) { p.Promises, p.PromiseDays = 4, 60 })
	want := after(c, func(c *api.Case) {
		c.Status, c.Promises, c.PromiseDue, c.PromiseAmount, c.Deadline = api.Promised, 4, 165, 1, 220
	})
	steps(t, "13.7", p, c, promise(105, 1, 60), want)
	refuses(t, "13.7", p, c, promise(105, 1, 61), api.ErrArg)
}

// 13.8: a restructuring ends the cycle in each of its statuses; a promise that runs is not counted as broken.
func TestRestructures(t *testing.T) {
	p := example()
	for _, c := range []api.Case{delinquent(), promised(), nonAccrual()} {
		want := ended(c, api.Restructured)
		want.Restructures++
		steps(t, "13.8", p, c, restructure(), want, api.ActRestructured)
		c.Restructures = 1
		refuses(t, "13.8", p, c, restructure(), api.ErrBudget)
		c.Restructures = 2
		refuses(t, "13.8", p, c, restructure(), api.ErrBudget)
		refuses(t, "13.8", with(func(p *api.Policy) { p.Restructures = 0 }), delinquent(), restructure(), api.ErrBudget)
		more := with(func(p *api.Policy) { p.Restructures = 4 })
		c.Restructures = 3
		want.Restructures = 4
		steps(t, "13.8", more, c, restructure(), want, api.ActRestructured)
		c.Restructures = 4
		refuses(t, "13.8", more, c, restructure(), api.ErrBudget)
	}
}

// 13.9: a fee is taken up to just the cap that leaves less, of the cycle's and the life's.
func TestFeesUnderCaps(t *testing.T) {
	used := func(cycle, life int64) func(c *api.Case) {
		return func(c *api.Case) { c.CycleFees, c.LifeFees = cycle, life }
	}
	for _, c := range []api.Case{delinquent(), nonAccrual()} {
		p := example()
		steps(t, "13.9", p, c, fee(1), after(c, used(1, 1)))
		steps(t, "13.9", p, c, fee(1000), after(c, used(1000, 1000)))
		refuses(t, "13.9", p, c, fee(1001), api.ErrBudget)
		refuses(t, "13.9", p, c, fee(most), api.ErrBudget)

		some := after(c, used(300, 400))
		steps(t, "13.9", p, some, fee(700), after(c, used(1000, 1100)))
		refuses(t, "13.9", p, some, fee(701), api.ErrBudget)
		refuses(t, "13.9", p, some, fee(most-299), api.ErrBudget)
		refuses(t, "13.9", p, some, fee(most), api.ErrBudget)

		late := after(c, used(300, 1300))
		steps(t, "13.9", p, late, fee(200), after(c, used(500, 1500)))
		refuses(t, "13.9", p, late, fee(201), api.ErrBudget)

		refuses(t, "13.9", p, after(c, used(1000, 1000)), fee(1), api.ErrBudget)
		refuses(t, "13.9", p, after(c, used(0, 1500)), fee(1), api.ErrBudget)
	}
}

// 13.9: caps of nothing take no fee, the greatest ones the greatest; and a case may be beyond a lesser policy's caps.
func TestFeesAtTheEndsOfCaps(t *testing.T) {
	caps := func(cycle, life int64) api.Policy {
		return with(func(p *api.Policy) { p.CycleCap, p.LifeCap = cycle, life })
	}
	c := delinquent()
	refuses(t, "13.9", caps(0, 1000), c, fee(1), api.ErrBudget)
	refuses(t, "13.9", caps(1000, 0), c, fee(1), api.ErrBudget)
	full := after(c, func(c *api.Case) { c.CycleFees, c.LifeFees = api.MaxFee, api.MaxFee })
	steps(t, "13.9", caps(api.MaxFee, api.MaxFee), c, fee(api.MaxFee), full)
	for _, amount := range []int64{1, most - api.MaxFee, most - api.MaxFee + 1, most} {
		refuses(t, "13.9", caps(api.MaxFee, api.MaxFee), full, fee(amount), api.ErrBudget)
		refuses(t, "13.9", caps(0, 0), full, fee(amount), api.ErrBudget)
		refuses(t, "13.9", caps(7, api.MaxFee), full, fee(amount), api.ErrBudget)
	}
}

// 13.10: a loan of which nothing is owed is closed from every status; one in a cycle is cured ahead of that.
func TestClose(t *testing.T) {
	for _, c := range cases() {
		switch {
		case isOver(c):
			refuses(t, "13.10", example(), c, shut(), api.ErrClosed)
		case collect.Open(c):
			want := ended(c, api.Closed)
			want.Cures++
			steps(t, "13.10", example(), c, shut(), want, api.ActCured, api.ActClosed)
		default:
			steps(t, "13.10", example(), c, shut(), after(c, func(c *api.Case) { c.Status = api.Closed }), api.ActClosed)
		}
	}
}
