package policy_test

import (
	"math"
	"testing"

	"arrears/api"
	"arrears/policy"
)

const most, least = math.MaxInt64, math.MinInt64

// example is the policy of the chapter's examples.
func example() api.Policy {
	return api.Policy{
		FirstDay: 1, Grace: 10, NonAccrual: 90, ChargeOff: 120,
		LateRate: 500, LateMin: 1500, LateMax: 10000, CycleCap: 20000, LifeCap: 50000,
		Promises: 3, PromiseDays: 14, Restructures: 2,
		Order: 0, Rule: 1, RetryBase: 2, RetryCap: 16, SnapEvery: 100,
	}
}

// with is the policy of the examples with a change.
func with(change func(p *api.Policy)) api.Policy {
	p := example()
	change(&p)
	return p
}

// passes holds Check to OK.
func passes(t *testing.T, p api.Policy) {
	t.Helper()
	if why, field := policy.Check(p); why != api.OK || field != 0 {
		t.Errorf("12.1: Check(%+v) = %d, %d, want OK, 0", p, why, field)
	}
}

// refuses holds Check to a field, and the other calls to 0.
func refuses(t *testing.T, p api.Policy, want int) {
	t.Helper()
	if why, field := policy.Check(p); why != api.ErrPolicy || field != want {
		t.Errorf("12.1: Check(%+v) = %d, %d, want ErrPolicy, %d", p, why, field, want)
	}
	for _, n := range []int64{least, -1, 0, 1, 100000, most} {
		if fee := policy.LateFee(p, n); fee != 0 {
			t.Errorf("12.2: LateFee(%+v, %d) = %d of a policy that may not be", p, n, fee)
		}
		for _, used := range []int64{least, -1, 0, 1, most} {
			if fee := policy.Assess(p, n, used, used); fee != 0 {
				t.Errorf("12.3: Assess(%+v, %d, %d, %d) = %d of a policy that may not be", p, n, used, used, fee)
			}
		}
		if ticks := policy.Backoff(p, int(n)); ticks != 0 {
			t.Errorf("12.4: Backoff(%+v, %d) = %d of a policy that may not be", p, n, ticks)
		}
	}
	comesTo(t, p, 0, 0)
}

func charges(t *testing.T, p api.Policy, amount, want int64) {
	t.Helper()
	if fee := policy.LateFee(p, amount); fee != want {
		t.Errorf("12.2: LateFee(%+v, %d) = %d, want %d", p, amount, fee, want)
	}
}

func assesses(t *testing.T, p api.Policy, amount, cycleFees, lifeFees, want int64) {
	t.Helper()
	if fee := policy.Assess(p, amount, cycleFees, lifeFees); fee != want {
		t.Errorf("12.3: Assess(%+v, %d, %d, %d) = %d, want %d", p, amount, cycleFees, lifeFees, fee, want)
	}
}

func waits(t *testing.T, p api.Policy, attempt, want int) {
	t.Helper()
	if ticks := policy.Backoff(p, attempt); ticks != want {
		t.Errorf("12.4: Backoff with %d and %d of %d = %d, want %d", p.RetryBase, p.RetryCap, attempt, ticks, want)
	}
}

// comesTo holds Bound and Window to numbers.
func comesTo(t *testing.T, p api.Policy, bound, window int) {
	t.Helper()
	if got := policy.Bound(p); got != bound {
		t.Errorf("12.5: Bound(%+v) = %d, want %d", p, got, bound)
	}
	if got := policy.Window(p); got != window {
		t.Errorf("12.6: Window(%+v) = %d, want %d", p, got, window)
	}
}

// 12.1: the chapter's examples, row by row.
func TestExamplesOfCheck(t *testing.T) {
	passes(t, example())
	refuses(t, with(func(p *api.Policy) { p.Grace, p.Order = 31, 9 }), 2)
	refuses(t, with(func(p *api.Policy) { p.NonAccrual = 10 }), 3)
	refuses(t, with(func(p *api.Policy) { p.LateMin = 20000 }), 7)
	refuses(t, with(func(p *api.Policy) { p.Holidays = []int{5, 5} }), 18)
	refuses(t, with(func(p *api.Policy) { p.Holidays = []int{3652060} }), 18)
}

// 12.2, 12.3: the chapter's examples, row by row.
func TestExamplesOfFees(t *testing.T) {
	p := example()
	charges(t, p, 100000, 5000)
	charges(t, p, 10000, 1500)
	charges(t, p, 1000000, 10000)
	charges(t, p, 0, 1500)
	charges(t, p, -1, 0)
	charges(t, p, 40010, 2000)
	charges(t, p, 40030, 2002)
	assesses(t, p, 100000, 0, 0, 5000)
	assesses(t, p, 100000, 18000, 18000, 2000)
	assesses(t, p, 100000, 20000, 20000, 0)
	assesses(t, p, 100000, 0, 47000, 3000)
	assesses(t, p, 100000, -5, 60000, 0)
}

// 12.4 to 12.6: the chapter's examples, row by row.
func TestExamplesOfTicksAndDays(t *testing.T) {
	p := example()
	for i, attempt := range []int{1, 2, 3, 4, 5, 0, most} {
		waits(t, p, attempt, []int{2, 4, 8, 16, 16, 2, 16}[i])
	}
	other := with(func(p *api.Policy) { p.RetryBase, p.RetryCap = 3, 10 })
	for i, ticks := range []int{3, 6, 10, 10} {
		waits(t, other, i+1, ticks)
	}
	comesTo(t, p, 162, 18)
	comesTo(t, with(func(p *api.Policy) { p.Grace = -1 }), 0, 0)
}
