package collect_test

import (
	"math/big"
	"math/rand"
	"slices"
	"testing"

	"arrears/api"
	"arrears/collect"
)

// active is a promise that runs in the model.
type active struct {
	due         int
	amount, got int64
}

// cycle is an open cycle in the model; it lies there only while it is open.
type cycle struct {
	since, deadline, promises int
	fees                      int64
	suspended                 bool
	promise                   *active
}

// model is a case as the chapter's words say it: what belongs to a cycle hangs on it and goes with it, and the status inside a cycle is found, not kept.
type model struct {
	outside                                     int // the status while no cycle is open
	open                                        *cycle
	cycles, kept, broken, cures, restructurings int
	fees                                        int64
}

// told is the case that the model stands for.
func (m *model) told() api.Case {
	c := api.Case{
		Status: m.outside, Cycles: m.cycles, Kept: m.kept, Broken: m.broken,
		Cures: m.cures, Restructures: m.restructurings, LifeFees: m.fees,
	}
	if o := m.open; o != nil {
		c.Status, c.Since, c.Deadline = api.Delinquent, o.since, o.deadline
		c.Promises, c.CycleFees, c.Suspended = o.promises, o.fees, o.suspended
		if o.suspended {
			c.Status = api.NonAccrual
		}
		if o.promise != nil {
			c.Status = api.Promised
			c.PromiseDue, c.PromiseAmount, c.PromiseGot = o.promise.due, o.promise.amount, o.promise.got
		}
	}
	return c
}

// leave ends the cycle.
func (m *model) leave(status int) {
	m.outside, m.open = status, nil
}

// illNumbers says which events are refused for their numbers.
func illNumbers(p api.Policy, e api.Event) api.Errno {
	noDay := e.Today < 1 || e.Today > 3652059
	noAmount := e.Amount <= 0
	switch e.Kind {
	case 1:
		if noDay || e.Days < 0 {
			return 2
		}
	case 2:
		if noAmount {
			return 4
		}
		if e.Days < 0 {
			return 2
		}
	case 4:
		if noDay || e.Days <= 0 || e.Days > p.PromiseDays {
			return 2
		}
		if noAmount {
			return 4
		}
	case 3, 6:
		if noAmount {
			return 4
		}
	case 5, 7:
	default:
		return 2
	}
	return 0
}

// beyond tells whether a sum is above a cap, in numbers that can't wrap.
func beyond(used, amount, limit int64) bool {
	sum := new(big.Int).Add(big.NewInt(used), big.NewInt(amount))
	return sum.Cmp(big.NewInt(limit)) > 0
}

// illCase says which events are refused for the case.
func (m *model) illCase(p api.Policy, e api.Event) api.Errno {
	if m.outside == api.Closed || m.outside == api.ChargedOff {
		return 130
	}
	if e.Kind < 4 || e.Kind == 7 {
		return 0
	}
	if m.open == nil {
		return 131
	}
	if e.Kind != 5 && m.open.promise != nil {
		return 132
	}
	spent := e.Kind == 4 && m.open.promises >= p.Promises ||
		e.Kind == 5 && m.restructurings >= p.Restructures ||
		e.Kind == 6 && (beyond(m.open.fees, e.Amount, p.CycleCap) || beyond(m.fees, e.Amount, p.LifeCap))
	if spent {
		return 133
	}
	return 0
}

// step plays an event on the model.
func (m *model) step(p api.Policy, e api.Event) (acts []int, why api.Errno) {
	if why := illNumbers(p, e); why != 0 {
		return nil, why
	}
	if why := m.illCase(p, e); why != 0 {
		return nil, why
	}
	switch e.Kind {
	case 1:
		return m.day(p, e), 0
	case 2:
		return m.payment(e), 0
	case 3:
		if m.open != nil && m.open.promise != nil {
			m.open.promise.got = max(0, m.open.promise.got-e.Amount)
		}
	case 4:
		m.open.promises++
		m.open.deadline += e.Days
		m.open.promise = &active{due: e.Today + e.Days, amount: e.Amount}
	case 5:
		m.restructurings++
		m.leave(api.Restructured)
		return []int{7}, 0
	case 6:
		m.open.fees, m.fees = m.open.fees+e.Amount, m.fees+e.Amount
	case 7:
		if m.open != nil {
			acts = append(acts, 6)
			m.cures++
		}
		m.leave(api.Closed)
		return append(acts, 8), 0
	}
	return nil, 0
}

// day plays the beginning of a day on the model.
func (m *model) day(p api.Policy, e api.Event) (acts []int) {
	if m.open != nil && m.open.promise != nil && m.open.promise.due < e.Today {
		m.broken++
		m.open.promise = nil
		acts = append(acts, 1)
	}
	if m.open != nil && e.Days == 0 {
		m.cures++
		m.leave(api.Cured)
		return append(acts, 6)
	}
	if m.open == nil {
		if e.Days == 0 && m.outside == api.Grace {
			m.outside = api.Current
		}
		if e.Days >= 1 && e.Days <= p.Grace {
			m.outside = api.Grace
		}
		if e.Days > p.Grace {
			m.cycles++
			m.open = &cycle{since: e.Today, deadline: e.Today + p.ChargeOff}
			acts = append(acts, 2)
		}
	}
	if m.open != nil && !m.open.suspended && e.Days >= p.NonAccrual {
		m.open.suspended = true
		acts = append(acts, 3)
	}
	if m.open != nil && m.open.deadline <= e.Today {
		m.leave(api.ChargedOff)
		acts = append(acts, 4)
	}
	return acts
}

// payment plays a payment on the model.
func (m *model) payment(e api.Event) (acts []int) {
	if m.open != nil && m.open.promise != nil {
		// What is missing is at least 1, and no promise is below 1.
		a := m.open.promise
		if missing := a.amount - a.got; e.Amount >= missing {
			m.kept++
			m.open.promise = nil
			acts = append(acts, 5)
		} else {
			a.got += e.Amount
		}
	}
	if e.Days == 0 {
		switch {
		case m.open != nil:
			m.cures++
			m.leave(api.Cured)
			acts = append(acts, 6)
		case m.outside == api.Grace:
			m.outside = api.Current
		}
	}
	return acts
}

// anyPolicy is a policy that may be, with small numbers so that its ends are met.
func anyPolicy(random *rand.Rand) api.Policy {
	p := example()
	p.Grace = random.Intn(4)
	p.NonAccrual = p.Grace + 1 + random.Intn(6)
	p.ChargeOff = 1 + random.Intn(12)
	p.CycleCap, p.LifeCap = int64(random.Intn(12)), int64(random.Intn(30))
	p.Promises, p.PromiseDays, p.Restructures = random.Intn(4), 1+random.Intn(6), random.Intn(4)
	return p
}

// among is one of some numbers.
func among[T any](random *rand.Rand, numbers ...T) T {
	return numbers[random.Intn(len(numbers))]
}

// anyEvent is an event near the ends of the rules; now and then its numbers are wild.
func anyEvent(random *rand.Rand, p api.Policy, today int) api.Event {
	e := api.Event{Kind: 1 + random.Intn(7), Today: today, Amount: 1 + random.Int63n(8)}
	if random.Intn(3) == 0 {
		e.Kind = api.EventAge
	}
	e.Days = among(random, 0, 1, p.Grace, p.Grace+1, p.NonAccrual-1, p.NonAccrual, p.PromiseDays)
	switch random.Intn(24) {
	case 0:
		e.Kind = among(random, least, -1, 0, 8, most)
	case 1:
		e.Today = among(random, least, -1, 0, 1, api.MaxDay, api.MaxDay+1, most)
	case 2:
		e.Days = among(random, least, -1, p.PromiseDays+1, 100, most)
	case 3:
		e.Amount = among[int64](random, least, -1, 0, most-1, most)
	}
	// A loan that is closed is of no more use.
	if e.Kind == api.EventClose && random.Intn(6) > 0 {
		e.Kind = api.EventPaid
	}
	return e
}

// 13.2 to 13.11: long lives under many policies, held against the model step by step and as a run.
func TestAgainstModel(t *testing.T) {
	random := rand.New(rand.NewSource(13))
	actions, statuses, errors := map[int]int{}, map[int]int{}, map[api.Errno]int{}
	for range 4000 {
		p := anyPolicy(random)
		m := &model{outside: api.Current}
		c := collect.Fresh()
		today := 1 + random.Intn(1000)
		var events []api.Event
		var all []int
		for range 30 {
			today += among(random, 0, 1, 1, 1, 2, 5)
			e := anyEvent(random, p, today)
			acts, why := m.step(p, e)
			next, got, err := collect.Step(p, c, e)
			if next != m.told() || !slices.Equal(got, acts) || err != why {
				t.Fatalf("13.3: under %+v Step(%+v, %+v) = %+v, %v, %d, want %+v, %v, %d", p, c, e, next, got, err, m.told(), acts, why)
			}
			if collect.Open(next) != (m.open != nil) {
				t.Fatalf("13.2: Open(%+v) is %v", next, m.open == nil)
			}
			c, events, all = next, append(events, e), append(all, acts...)
			statuses[c.Status]++
			errors[why]++
			for _, a := range acts {
				actions[a]++
			}
		}
		if last, acts := collect.Run(p, collect.Fresh(), events); last != c || !slices.Equal(acts, all) {
			t.Fatalf("13.11: Run(%+v) = %+v, %v, want %+v, %v", events, last, acts, c, all)
		}
	}
	for n := 1; n <= 9; n++ {
		if statuses[n] < 100 || n <= 8 && actions[n] < 100 {
			t.Errorf("status or action %d was seldom met: %v, %v", n, statuses, actions)
		}
	}
	for _, why := range []api.Errno{api.OK, api.ErrArg, api.ErrAmount, api.ErrClosed, api.ErrNotOpen, api.ErrActive, api.ErrBudget} {
		if errors[why] < 100 {
			t.Errorf("the error %d was seldom met: %v", why, errors)
		}
	}
}
