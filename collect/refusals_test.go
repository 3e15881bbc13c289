package collect_test

import (
	"testing"

	"arrears/api"
	"arrears/collect"
)

// cases are of all statuses, those of an open cycle with what may stand in it.
func cases() []api.Case {
	return []api.Case{
		collect.Fresh(),
		{Status: api.Grace, LifeFees: 20},
		delinquent(),
		promised(),
		nonAccrual(),
		{Status: api.Cured, Cycles: 2, Cures: 2, Kept: 1, LifeFees: 30},
		{Status: api.Restructured, Cycles: 1, Restructures: 1},
		{Status: api.ChargedOff, Cycles: 3, Broken: 1, Cures: 2, LifeFees: 30},
		{Status: api.Closed, Cycles: 1, Cures: 1},
	}
}

func delinquent() api.Case {
	return api.Case{Status: api.Delinquent, Cycles: 1, Since: 100, Deadline: 160}
}

func nonAccrual() api.Case {
	return api.Case{Status: api.NonAccrual, Suspended: true, Cycles: 1, Since: 100, Deadline: 160}
}

func promised() api.Case {
	return api.Case{
		Status: api.Promised, Cycles: 1, Since: 100, Deadline: 170, Promises: 1,
		PromiseDue: 110, PromiseAmount: 500, PromiseGot: 200, CycleFees: 40, LifeFees: 50,
	}
}

func isOver(c api.Case) bool { return c.Status == api.ChargedOff || c.Status == api.Closed }

// everyKind are events that are sound in their numbers.
func everyKind() []api.Event {
	return []api.Event{age(105, 7), paid(10, 7), returned(10), promise(105, 10, 5), restructure(), fee(10), shut()}
}

// 13.3: a policy that may not be is refused ahead of all else, whatever the case and the event are.
func TestPolicyIsFirst(t *testing.T) {
	bad := []api.Policy{
		{},
		with(func(p *api.Policy) { p.Grace = 31 }),
		with(func(p *api.Policy) { p.NonAccrual = 5 }),
		with(func(p *api.Policy) { p.ChargeOff = 0 }),
		with(func(p *api.Policy) { p.PromiseDays = 61 }),
		with(func(p *api.Policy) { p.LifeCap = -1 }),
		with(func(p *api.Policy) { p.RetryCap = 0 }),
		with(func(p *api.Policy) { p.Holidays = []int{7, 7} }),
	}
	events := append(everyKind(), age(0, -1), paid(0, 0), api.Event{Kind: 0}, api.Event{Kind: 8})
	for _, p := range bad {
		for _, c := range append(cases(), api.Case{}, api.Case{Status: 10, Promises: -7}) {
			for _, e := range events {
				refuses(t, "13.3", p, c, e, api.ErrPolicy)
			}
		}
	}
}

// 13.3: a kind that is none of the seven is refused, also of a case that is over.
func TestKindsThatAreNone(t *testing.T) {
	for _, c := range cases() {
		for _, kind := range []int{least, -7, -1, 0, 8, 9, 257, 1<<32 + 1, most} {
			refuses(t, "13.3", example(), c, api.Event{Kind: kind, Today: 105, Days: 5, Amount: 5}, api.ErrArg)
		}
	}
}

// ill are events that are refused for their numbers alone, under the policy of the examples.
func ill() map[api.Event]api.Errno {
	return map[api.Event]api.Errno{
		age(0, 0):              api.ErrArg,
		age(-1, 7):             api.ErrArg,
		age(least, 7):          api.ErrArg,
		age(3652060, 7):        api.ErrArg,
		age(most, 7):           api.ErrArg,
		age(105, -1):           api.ErrArg,
		age(105, least):        api.ErrArg,
		paid(0, 7):             api.ErrAmount,
		paid(-1, 0):            api.ErrAmount,
		paid(least, 0):         api.ErrAmount,
		paid(0, -1):            api.ErrAmount,
		paid(1, -1):            api.ErrArg,
		paid(most, least):      api.ErrArg,
		returned(0):            api.ErrAmount,
		returned(-1):           api.ErrAmount,
		returned(least):        api.ErrAmount,
		promise(0, 1, 1):       api.ErrArg,
		promise(-1, 1, 1):      api.ErrArg,
		promise(3652060, 1, 1): api.ErrArg,
		promise(105, 1, 0):     api.ErrArg,
		promise(105, 1, -1):    api.ErrArg,
		promise(105, 1, 11):    api.ErrArg,
		promise(105, 1, most):  api.ErrArg,
		promise(0, 0, 1):       api.ErrArg,
		promise(105, 0, 11):    api.ErrArg,
		promise(105, 0, 10):    api.ErrAmount,
		promise(105, -1, 1):    api.ErrAmount,
		promise(1, least, 1):   api.ErrAmount,
		fee(0):                 api.ErrAmount,
		fee(-1):                api.ErrAmount,
		fee(least):             api.ErrAmount,
	}
}

// 13.3 to 13.9: an event's numbers are looked at ahead of the case, also of one that is over.
func TestNumbersAreAheadOfTheCase(t *testing.T) {
	for _, c := range cases() {
		for e, why := range ill() {
			refuses(t, "13.3", example(), c, e, why)
		}
	}
}

// 13.3: a case that is over is told ahead of what a rule says of the case: it has no open cycle, and no room.
func TestOverIsAheadOfTheRule(t *testing.T) {
	for _, c := range cases() {
		if !isOver(c) {
			continue
		}
		for _, e := range append(everyKind(), age(105, 0), paid(1, 0), fee(most), promise(1, most, 1)) {
			refuses(t, "13.3", example(), c, e, api.ErrClosed)
		}
	}
}

// 13.7, 13.8, 13.9: what needs an open cycle is refused without one, whatever budget is left.
func TestNoOpenCycle(t *testing.T) {
	none := with(func(p *api.Policy) { p.Promises, p.Restructures, p.CycleCap, p.LifeCap = 0, 0, 0, 0 })
	for _, c := range cases() {
		if isOver(c) || collect.Open(c) {
			continue
		}
		for _, p := range []api.Policy{example(), none} {
			refuses(t, "13.7", p, c, promise(105, 10, 5), api.ErrNotOpen)
			refuses(t, "13.8", p, c, restructure(), api.ErrNotOpen)
			refuses(t, "13.9", p, c, fee(1), api.ErrNotOpen)
		}
	}
}

// 13.7, 13.9: an active promise is told ahead of the budget that is spent.
func TestActiveIsAheadOfBudget(t *testing.T) {
	c := promised()
	refuses(t, "13.7", example(), c, promise(105, 10, 5), api.ErrActive)
	refuses(t, "13.9", example(), c, fee(most), api.ErrActive)
	roomy := with(func(p *api.Policy) { p.Promises, p.CycleCap, p.LifeCap = 8, api.MaxFee, api.MaxFee })
	refuses(t, "13.7", roomy, c, promise(105, 10, 5), api.ErrActive)
	refuses(t, "13.9", roomy, c, fee(1), api.ErrActive)
}

// 13.3: fields that a rule does not name are not looked at.
func TestOtherFieldsAreFree(t *testing.T) {
	numbers := []int{least, -1, 0, 1, 3652060, most}
	for _, c := range cases() {
		if isOver(c) {
			continue
		}
		for _, e := range everyKind() {
			want, acts, why := collect.Step(example(), c, e)
			for _, n := range numbers {
				odd := e
				switch e.Kind {
				case api.EventAge:
					odd.Amount = int64(n)
				case api.EventPaid:
					odd.Today = n
				case api.EventReturned, api.EventFee:
					odd.Today, odd.Days = n, n
				case api.EventRestructure, api.EventClose:
					odd.Today, odd.Days, odd.Amount = n, n, int64(n)
				}
				if why != api.OK {
					refuses(t, "13.3", example(), c, odd, why)
					continue
				}
				steps(t, "13.3", example(), c, odd, want, acts...)
			}
		}
	}
}

// 13.1: of a case that no call answered every call ends, and none panics.
func TestIllMadeCases(t *testing.T) {
	numbers := []int{least, -1, 0, 1, most}
	for status := -1; status <= 10; status++ {
		for _, n := range numbers {
			for _, k := range numbers {
				c := api.Case{
					Status: status, Suspended: n < k, Cycles: n, Since: k, Deadline: n, Promises: k, PromiseDue: k,
					PromiseAmount: int64(n), PromiseGot: int64(k), Kept: n, Broken: k, Cures: n, Restructures: k,
					CycleFees: int64(k), LifeFees: int64(n),
				}
				for _, e := range everyKind() {
					collect.Step(example(), c, e)
				}
				collect.Run(example(), c, everyKind())
				collect.Open(c)
			}
		}
	}
}
