package collect_test

import (
	"math"
	"slices"
	"testing"

	"arrears/api"
	"arrears/collect"
)

const most, least = math.MaxInt64, math.MinInt64

// example is the policy of the chapter's examples.
func example() api.Policy {
	return api.Policy{
		FirstDay: 1, Grace: 5, NonAccrual: 30, ChargeOff: 60,
		CycleCap: 1000, LifeCap: 1500, Promises: 1, PromiseDays: 10, Restructures: 1,
		RetryBase: 1, RetryCap: 8,
	}
}

// with is the policy of the examples with a change.
func with(change func(p *api.Policy)) api.Policy {
	p := example()
	change(&p)
	return p
}

func age(today, days int) api.Event {
	return api.Event{Kind: api.EventAge, Today: today, Days: days}
}

func paid(amount int64, days int) api.Event {
	return api.Event{Kind: api.EventPaid, Days: days, Amount: amount}
}

func returned(amount int64) api.Event {
	return api.Event{Kind: api.EventReturned, Amount: amount}
}

func promise(today int, amount int64, days int) api.Event {
	return api.Event{Kind: api.EventPromise, Today: today, Days: days, Amount: amount}
}

func restructure() api.Event { return api.Event{Kind: api.EventRestructure} }

func fee(amount int64) api.Event {
	return api.Event{Kind: api.EventFee, Amount: amount}
}

func shut() api.Event { return api.Event{Kind: api.EventClose} }

func same(*api.Case) {}

// steps holds Step to OK, a case and actions.
func steps(t *testing.T, promise string, p api.Policy, c api.Case, e api.Event, want api.Case, actions ...int) {
	t.Helper()
	got, acts, why := collect.Step(p, c, e)
	if why != api.OK || got != want || !slices.Equal(acts, actions) {
		t.Errorf("%s: Step(%+v, %+v) = %+v, %v, %d, want %+v, %v, OK", promise, c, e, got, acts, why, want, actions)
	}
}

// refuses holds Step to an error, with the case as it was and no actions; and Run to the same case.
func refuses(t *testing.T, promise string, p api.Policy, c api.Case, e api.Event, want api.Errno) {
	t.Helper()
	got, acts, why := collect.Step(p, c, e)
	if why != want || got != c || len(acts) != 0 {
		t.Errorf("%s: Step(%+v, %+v) = %+v, %v, %d, want the same case, no actions, %d", promise, c, e, got, acts, why, want)
	}
	if got, acts := collect.Run(p, c, []api.Event{e}); got != c || len(acts) != 0 {
		t.Errorf("13.11: Run(%+v, %+v) = %+v, %v, though it is refused", c, e, got, acts)
	}
}

// story plays events from Fresh on, each where the one before left the case.
type story struct {
	t *testing.T
	p api.Policy
	c api.Case
}

func begin(t *testing.T, p api.Policy) *story {
	return &story{t, p, collect.Fresh()}
}

// does holds an event to OK, to what it changes in the case, and to its actions.
func (s *story) does(promise string, e api.Event, change func(c *api.Case), actions ...int) {
	s.t.Helper()
	want := s.c
	change(&want)
	steps(s.t, promise, s.p, s.c, e, want, actions...)
	s.c = want
}

// fails holds an event to an error.
func (s *story) fails(promise string, e api.Event, why api.Errno) {
	s.t.Helper()
	refuses(s.t, promise, s.p, s.c, e, why)
}

// 13.3 to 13.10: the rows of the chapter's examples, each from the one above it.
func TestExamples(t *testing.T) {
	s := begin(t, example())
	s.does("13.4", age(100, 0), same)
	s.does("13.4", age(101, 1), func(c *api.Case) { c.Status = api.Grace })
	s.fails("13.9", fee(300), api.ErrNotOpen)
	s.does("13.4", age(106, 6), func(c *api.Case) {
		c.Status, c.Cycles, c.Since, c.Deadline = api.Delinquent, 1, 106, 166
	}, api.ActDelinquent)
	s.does("13.9", fee(300), func(c *api.Case) { c.CycleFees, c.LifeFees = 300, 300 })
	s.fails("13.9", fee(800), api.ErrBudget)
	s.fails("13.7", promise(106, 500, 11), api.ErrArg)
	s.does("13.7", promise(106, 500, 10), func(c *api.Case) {
		c.Status, c.Promises, c.PromiseDue, c.PromiseAmount, c.Deadline = api.Promised, 1, 116, 500, 176
	})
	s.does("13.5", paid(200, 6), func(c *api.Case) { c.PromiseGot = 200 })
	s.does("13.6", returned(50), func(c *api.Case) { c.PromiseGot = 150 })
	s.does("13.4", age(116, 16), same)
	s.does("13.4", age(117, 30), func(c *api.Case) {
		c.Status, c.Suspended, c.Broken = api.NonAccrual, true, 1
		c.PromiseDue, c.PromiseAmount, c.PromiseGot = 0, 0, 0
	}, api.ActBroken, api.ActNonAccrual)
	s.fails("13.7", promise(117, 1, 1), api.ErrBudget)
	s.does("13.5", paid(700, 0), func(c *api.Case) {
		*c = api.Case{Status: api.Cured, Cycles: 1, Broken: 1, Cures: 1, LifeFees: 300}
	}, api.ActCured)
	s.does("13.4", age(118, 6), func(c *api.Case) {
		c.Status, c.Cycles, c.Since, c.Deadline = api.Delinquent, 2, 118, 178
	}, api.ActDelinquent)
	s.does("13.8", restructure(), func(c *api.Case) {
		*c = api.Case{Status: api.Restructured, Cycles: 2, Broken: 1, Cures: 1, Restructures: 1, LifeFees: 300}
	}, api.ActRestructured)
	s.fails("13.8", restructure(), api.ErrNotOpen)
	s.does("13.4", age(119, 0), same)
	s.does("13.4", age(120, 6), func(c *api.Case) {
		c.Status, c.Cycles, c.Since, c.Deadline = api.Delinquent, 3, 120, 180
	}, api.ActDelinquent)
	s.fails("13.8", restructure(), api.ErrBudget)
	s.does("13.4", age(180, 2), func(c *api.Case) {
		c.Status, c.Since, c.Deadline = api.ChargedOff, 0, 0
	}, api.ActChargeOff)
	s.fails("13.3", age(181, 0), api.ErrClosed)
	s.fails("13.3", shut(), api.ErrClosed)
	s.fails("13.3", fee(0), api.ErrAmount)
}

// 13.2: a new loan's case is current, and nothing else stands in it.
func TestFresh(t *testing.T) {
	if c := collect.Fresh(); c != (api.Case{Status: 1}) {
		t.Errorf("13.2: Fresh() = %+v", c)
	}
}

// 13.2: a cycle is open in three of the statuses, whatever else stands in the case.
func TestOpen(t *testing.T) {
	for status := -2; status <= 12; status++ {
		want := status >= 3 && status <= 5
		for _, c := range []api.Case{
			{Status: status},
			{Status: status, Suspended: true, Cycles: 1, Since: 5, Deadline: 65, Promises: 1, PromiseDue: 9, PromiseAmount: 4},
		} {
			if got := collect.Open(c); got != want {
				t.Errorf("13.2: Open(%+v) = %v", c, got)
			}
		}
	}
	for _, status := range []int{least, most} {
		if collect.Open(api.Case{Status: status}) {
			t.Errorf("13.2: a cycle is open in the status %d", status)
		}
	}
}

// 13.12: the nine words, and none for any other number.
func TestNames(t *testing.T) {
	want := []string{"current", "grace", "delinquent", "promised", "non-accrual", "cured", "restructured", "charged-off", "closed"}
	for i, word := range want {
		if got := collect.Name(i + 1); got != word {
			t.Errorf("13.12: Name(%d) = %q, want %q", i+1, got, word)
		}
	}
	for _, status := range []int{least, -9, -1, 0, 10, 11, 256, 257, 1 << 32, 1<<32 + 1, most} {
		if got := collect.Name(status); got != "" {
			t.Errorf("13.12: Name(%d) = %q", status, got)
		}
	}
}
