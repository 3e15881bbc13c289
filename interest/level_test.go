package interest_test

import (
	"math"
	"math/big"
	"math/rand"
	"testing"

	"arrears/api"
	"arrears/interest"
)

// clears tells, in numbers without an end, whether a payment pays a principal off: each month the interest is laid on the balance, then the payment is taken off.
func clears(principal, rate int64, count int, payment *big.Int) bool {
	balance := big.NewInt(principal)
	for range count {
		balance.Add(balance, earns(balance, rate))
		if balance.Cmp(payment) <= 0 {
			return true
		}
		balance.Sub(balance, payment)
	}
	return false
}

// checkLevel asks for a payment that pays off while one cent less doesn't, or for a refusal where the greatest int64 doesn't pay off.
func checkLevel(t *testing.T, principal, rate int64, count int) {
	t.Helper()
	payment, ok := interest.Level(principal, rate, count)
	if !ok {
		if payment != 0 || clears(principal, rate, count, big.NewInt(most)) {
			t.Fatalf("3.4: Level(%d, %d, %d) = %d, false", principal, rate, count, payment)
		}
		return
	}
	if payment < 1 || !clears(principal, rate, count, big.NewInt(payment)) {
		t.Fatalf("3.4: Level(%d, %d, %d) = %d does not pay off", principal, rate, count, payment)
	}
	if payment > 1 && clears(principal, rate, count, big.NewInt(payment-1)) {
		t.Fatalf("3.4: Level(%d, %d, %d) = %d is not the least", principal, rate, count, payment)
	}
}

// 3.4: small principals, every payment from 1 on tried in turn.
func TestLevelOneByOne(t *testing.T) {
	for _, rate := range []int64{0, 1, 1200, 5000, 99999, api.MaxRate} {
		for principal := int64(1); principal <= 60; principal++ {
			for _, count := range []int{1, 2, 3, 5, 12, 59, 60, 61, 119, 120} {
				want := int64(1)
				for !clears(principal, rate, count, big.NewInt(want)) {
					want++
				}
				if payment, ok := interest.Level(principal, rate, count); payment != want || !ok {
					t.Fatalf("3.4: Level(%d, %d, %d) = %d, %v, want %d", principal, rate, count, payment, ok, want)
				}
			}
		}
	}
}

// 3.4: principals, rates and counts at both ends, and drawn ones of all sizes.
func TestLevelIsLeast(t *testing.T) {
	for _, principal := range principals[1:] {
		for _, rate := range rates {
			for _, count := range []int{1, 2, 3, 12, api.MaxTerm - 1, api.MaxTerm} {
				checkLevel(t, principal, rate, count)
			}
		}
	}
	r := rand.New(rand.NewSource(34))
	for range 3000 {
		checkLevel(t, 1+r.Int63n(most)>>r.Intn(63), r.Int63n(api.MaxRate+1), 1+r.Intn(api.MaxTerm))
	}
}

// 3.4: the document's own examples, and payments on both sides of the greatest int64.
func TestLevelExamples(t *testing.T) {
	for _, c := range []struct {
		principal, rate int64
		count           int
		payment         int64
		ok              bool
	}{
		{100000, 0, 12, 8334, true},
		{100000, 1200, 12, 8885, true},
		{1, 100000, 120, 2, true},
		{5, 0, 120, 1, true},
		{100, 1200, 3, 34, true},
		{1, 0, 1, 1, true},
		{most, 0, 1, most, true},
		{most, 0, 120, 76861433640456466, true},
		{most, 1200, 1, 0, false},
		{most, 100000, 1, 0, false},
		{most, 100000, 2, 0, false},
		{most, 100000, 3, 9175118222013233632, true},
		// The greatest principal that the greatest int64 pays off in a month, and one cent more.
		{9132051521638391888, 1200, 1, most, true},
		{9132051521638391889, 1200, 1, 0, false},
	} {
		payment, ok := interest.Level(c.principal, c.rate, c.count)
		if payment != c.payment || ok != c.ok {
			t.Errorf("3.4: Level(%d, %d, %d) = %d, %v, want %d, %v", c.principal, c.rate, c.count, payment, ok, c.payment, c.ok)
		}
	}
}

// 3.4: what is no principal above 0, no rate, or no count is refused, with 0.
func TestLevelRefused(t *testing.T) {
	refused := func(principal, rate int64, count int) {
		t.Helper()
		if payment, ok := interest.Level(principal, rate, count); payment != 0 || ok {
			t.Errorf("3.4: Level(%d, %d, %d) = %d, %v", principal, rate, count, payment, ok)
		}
	}
	for _, principal := range append([]int64{0}, noPrincipals...) {
		refused(principal, 0, 1)
		refused(principal, 1200, 12)
	}
	for _, rate := range noRates {
		refused(1, rate, 1)
		refused(100000, rate, 12)
	}
	for _, count := range []int{0, -1, -120, api.MaxTerm + 1, math.MaxInt, math.MinInt} {
		refused(1, 0, count)
		refused(100000, 1200, count)
	}
}

// 3.6: with one month more the payment is never greater.
func TestLevelFallsWithMonths(t *testing.T) {
	for _, principal := range []int64{1, 5, 99, 100000, 12345678901, api.MaxPrincipal} {
		for _, rate := range rates {
			last, _ := interest.Level(principal, rate, 1)
			for count := 2; count <= api.MaxTerm; count++ {
				payment, ok := interest.Level(principal, rate, count)
				if payment > last || !ok {
					t.Fatalf("3.6: Level(%d, %d, %d) = %d, %v, a month less %d", principal, rate, count, payment, ok, last)
				}
				last = payment
			}
		}
	}
}

// 3.6: with one cent more of principal the payment is never less.
func TestLevelRisesWithPrincipal(t *testing.T) {
	for _, from := range []int64{1, 99900, api.MaxPrincipal - 100} {
		for _, rate := range rates {
			for _, count := range []int{1, 2, 12, api.MaxTerm} {
				last := int64(0)
				for principal := from; principal < from+100; principal++ {
					payment, ok := interest.Level(principal, rate, count)
					if payment < last || !ok {
						t.Fatalf("3.6: Level(%d, %d, %d) = %d, %v, a cent less %d", principal, rate, count, payment, ok, last)
					}
					last = payment
				}
			}
		}
	}
}
