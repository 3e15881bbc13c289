package policy_test

import (
	"testing"

	"arrears/api"
	"arrears/policy"
)

// retry is the policy of the examples with other waits.
func retry(base, limit int) api.Policy {
	return with(func(p *api.Policy) { p.RetryBase, p.RetryCap = base, limit })
}

// 12.4: every base with every cap: doubled from one sending to the next, till the cap.
func TestBackoffOfEachPair(t *testing.T) {
	for base := 1; base <= 64; base++ {
		for limit := base; limit <= 64; limit++ {
			p, want := retry(base, limit), base
			for attempt := 1; attempt <= 140; attempt++ {
				waits(t, p, attempt, want)
				want = min(2*want, limit)
			}
		}
	}
}

// 12.4: attempts as great as an int may be, and such at which a shift or a narrower int would come round.
func TestBackoffOfGreatAttempts(t *testing.T) {
	for _, p := range []api.Policy{retry(1, 64), retry(2, 16), retry(3, 10), retry(63, 64), retry(64, 64), retry(1, 1), retry(7, 7)} {
		for _, attempt := range []int{8, 63, 64, 65, 66, 128, 129, 257, 1<<16 + 1, 1 << 31, 1<<32 + 1, 1 << 62, most - 1, most} {
			waits(t, p, attempt, p.RetryCap)
		}
	}
}

// 12.4: an attempt below 1 counts as 1.
func TestBackoffBelowOne(t *testing.T) {
	for _, p := range []api.Policy{retry(1, 64), retry(2, 16), retry(3, 10), retry(64, 64)} {
		for _, attempt := range []int{1, 0, -1, -2, -63, -64, -1 << 32, -most, least} {
			waits(t, p, attempt, p.RetryBase)
		}
	}
}

// 12.5: all promises of all lengths behind charge-offs early and late.
func TestBoundOfEachPolicy(t *testing.T) {
	for _, chargeOff := range []int{1, 2, 60, 364, 365} {
		for promises := range 9 {
			for days := 1; days <= 60; days++ {
				p := with(func(p *api.Policy) { p.ChargeOff, p.Promises, p.PromiseDays = chargeOff, promises, days })
				want := chargeOff
				for range promises {
					want += days
				}
				comesTo(t, p, want, 18)
			}
		}
	}
}

// 12.6: each cap, whatever the base is.
func TestWindowOfEachPolicy(t *testing.T) {
	for limit := 1; limit <= 64; limit++ {
		for base := 1; base <= limit; base++ {
			comesTo(t, retry(base, limit), 162, limit+2)
		}
	}
}

// 12.4 to 12.6: what a call comes to hangs on its own fields alone.
func TestOtherFieldsCountForNothing(t *testing.T) {
	for i, b := range bounds {
		field := i + 1
		for _, n := range []int64{b.from, b.to} {
			p := set(loose(), field, n)
			if field != 15 && field != 16 {
				waits(t, p, 1, 1)
				waits(t, p, 3, 4)
				waits(t, p, 9, 64)
			}
			if field != 4 && field != 10 && field != 11 {
				comesTo(t, p, 162, p.RetryCap+2)
			}
			if field != 5 && field != 6 && field != 7 {
				charges(t, p, 40030, 2002)
			}
			if field < 5 || field > 9 {
				assesses(t, p, 40030, 19000, 30000, 1000)
				assesses(t, p, 40030, 5000, 49001, 999)
			}
		}
	}
}

// 12.1 to 12.6: nothing is kept: the same call answers the same, whatever was called in between.
func TestNothingIsKept(t *testing.T) {
	for range 3 {
		passes(t, example())
		charges(t, example(), 100000, 5000)
		assesses(t, example(), 100000, 18000, 18000, 2000)
		waits(t, example(), 2, 4)
		comesTo(t, example(), 162, 18)
		refuses(t, with(func(p *api.Policy) { p.Grace = -1 }), 2)
		policy.LateFee(feeRule(10000, 7, 8), most)
		policy.Assess(capped(5, 5), most, 1, 1)
		policy.Backoff(retry(1, 64), most)
		policy.Window(retry(1, 64))
	}
}
