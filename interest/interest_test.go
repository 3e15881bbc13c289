package interest_test

import (
	"math"
	"math/big"
	"math/rand"
	"testing"

	"arrears/api"
	"arrears/interest"
)

const most, deepest = math.MaxInt64, math.MinInt64

// principals, rates, carries and spans are the ends of their ranges and what lies beside them.
var (
	principals = []int64{0, 1, 2, 36, 37, 99, 100, 36500, 12345678901, api.MaxPrincipal, api.MaxPrincipal + 1, most/2 + 1, most - 1, most}
	rates      = []int64{0, 1, 2, 725, 1200, 9999, 10000, api.MaxRate - 1, api.MaxRate}
	carries    = []int64{0, 1, 1825000, api.DayDen - 2, api.DayDen - 1}
	spans      = []int{0, 1, 2, 36, 37, 365, 366, 36500, api.MaxDay - 1, api.MaxDay}
)

// numbers that are no principal, no rate, no carry, no number of days.
var (
	noPrincipals = []int64{-1, -2, -api.MaxPrincipal, deepest + 1, deepest}
	noRates      = []int64{-1, -2, api.MaxRate + 1, 2 * api.MaxRate, most, deepest}
	noCarries    = []int64{-1, -2, api.DayDen, api.DayDen + 1, 2 * api.DayDen, most, deepest}
	noSpans      = []int{-1, -2, api.MaxDay + 1, 2 * api.MaxDay, math.MaxInt, math.MinInt}
)

// reckon is the whole cents and the rest of so many days, in numbers without an end.
func reckon(principal, rate, carry int64, days int) (int64, int64, bool) {
	n := new(big.Int).Mul(big.NewInt(principal), big.NewInt(rate))
	n.Mul(n, big.NewInt(int64(days)))
	n.Add(n, big.NewInt(carry))
	cents, rest := n.DivMod(n, big.NewInt(api.DayDen), new(big.Int))
	if !cents.IsInt64() {
		return 0, 0, false
	}
	return cents.Int64(), rest.Int64(), true
}

func checkSpan(t *testing.T, principal, rate, carry int64, days int) {
	t.Helper()
	cents, rest, ok := reckon(principal, rate, carry, days)
	gotCents, gotRest, gotOK := interest.Span(principal, rate, carry, days)
	if gotCents != cents || gotRest != rest || gotOK != ok {
		t.Fatalf("3.2: Span(%d, %d, %d, %d) = %d, %d, %v, want %d, %d, %v", principal, rate, carry, days, gotCents, gotRest, gotOK, cents, rest, ok)
	}
}

func checkDaily(t *testing.T, principal, rate, carry int64) {
	t.Helper()
	cents, rest, ok := reckon(principal, rate, carry, 1)
	gotCents, gotRest, gotOK := interest.Daily(principal, rate, carry)
	if gotCents != cents || gotRest != rest || !gotOK || !ok {
		t.Fatalf("3.1: Daily(%d, %d, %d) = %d, %d, %v, want %d, %d, %v", principal, rate, carry, gotCents, gotRest, gotOK, cents, rest, ok)
	}
}

// 3.1: a day at the ends of all three ranges; a product far beyond an int64 always has an answer.
func TestDailyAtTheEdges(t *testing.T) {
	for _, principal := range principals {
		for _, rate := range rates {
			for _, carry := range carries {
				checkDaily(t, principal, rate, carry)
			}
		}
	}
}

// 3.1: carries around the point at which they make up a cent.
func TestDailyFillsACent(t *testing.T) {
	for _, c := range []struct{ principal, rate, carry, cents, rest int64 }{
		{36500, 10000, 0, 100, 0},
		{100, 500, 0, 0, 50000},
		{100, 500, 3599999, 0, 3649999},
		{100, 500, 3600000, 1, 0},
		{100, 500, 3600001, 1, 1},
		{0, 100000, 3649999, 0, 3649999},
		{1, 1, 3649999, 1, 0},
		{most, 100000, 3649999, 252695124297391118, 3649999},
		{most, 0, 1, 0, 1},
	} {
		cents, rest, ok := interest.Daily(c.principal, c.rate, c.carry)
		if cents != c.cents || rest != c.rest || !ok {
			t.Errorf("3.1: Daily(%d, %d, %d) = %d, %d, %v, want %d, %d", c.principal, c.rate, c.carry, cents, rest, ok, c.cents, c.rest)
		}
	}
}

// 3.1: what is no principal, no rate or no carry is refused, with zeros.
func TestDailyRefused(t *testing.T) {
	refused := func(principal, rate, carry int64) {
		t.Helper()
		if cents, rest, ok := interest.Daily(principal, rate, carry); cents != 0 || rest != 0 || ok {
			t.Errorf("3.1: Daily(%d, %d, %d) = %d, %d, %v", principal, rate, carry, cents, rest, ok)
		}
	}
	for _, principal := range noPrincipals {
		refused(principal, 0, 0)
		refused(principal, 1200, 7)
	}
	for _, rate := range noRates {
		refused(0, rate, 0)
		refused(36500, rate, 7)
	}
	for _, carry := range noCarries {
		refused(0, 0, carry)
		refused(36500, 1200, carry)
	}
}

// 3.2: spans at the ends of all four ranges.
func TestSpanAtTheEdges(t *testing.T) {
	for _, principal := range principals {
		for _, rate := range rates {
			for _, carry := range carries {
				for _, days := range spans {
					checkSpan(t, principal, rate, carry, days)
				}
			}
		}
	}
}

// 3.2: the document's own examples.
func TestSpanExamples(t *testing.T) {
	for _, c := range []struct {
		principal, rate, carry int64
		days                   int
		cents, rest            int64
		ok                     bool
	}{
		{100, 500, 0, 73, 1, 0, true},
		{100, 500, 0, 72, 0, 3600000, true},
		{100, 500, 7, 0, 0, 7, true},
		{100, 500, 7, -1, 0, 0, false},
		{most, 100000, 0, 36, 9097024474706080248, 0, true},
		{most, 100000, 0, 37, 0, 0, false},
		{12345678901, 725, 999999, 3652059, 8955666332217, 1640274, true},
	} {
		cents, rest, ok := interest.Span(c.principal, c.rate, c.carry, c.days)
		if cents != c.cents || rest != c.rest || ok != c.ok {
			t.Errorf("3.2: Span(%d, %d, %d, %d) = %d, %d, %v, want %d, %d, %v", c.principal, c.rate, c.carry, c.days, cents, rest, ok, c.cents, c.rest, c.ok)
		}
	}
}

// 3.2: the greatest int64 of cents has an answer, until the carry fills one cent more.
func TestSpanFillsTheLastCent(t *testing.T) {
	const rate, days = 3, 1216667 // their product is one above DayDen
	product := new(big.Int).Mul(big.NewInt(most), big.NewInt(api.DayDen))
	principal := new(big.Int).Add(product.Div(product, big.NewInt(rate*days)), big.NewInt(1)).Int64()
	cents, rest, ok := interest.Span(principal, rate, 0, days)
	if cents != most || rest == 0 || !ok {
		t.Fatalf("3.2: Span(%d, %d, 0, %d) = %d, %d, %v", principal, rate, days, cents, rest, ok)
	}
	cents, end, ok := interest.Span(principal, rate, api.DayDen-1-rest, days)
	if cents != most || end != api.DayDen-1 || !ok {
		t.Errorf("3.2: a carry that fills no cent: %d, %d, %v", cents, end, ok)
	}
	cents, end, ok = interest.Span(principal, rate, api.DayDen-rest, days)
	if cents != 0 || end != 0 || ok {
		t.Errorf("3.2: a carry that fills a cent beyond int64: %d, %d, %v", cents, end, ok)
	}
	checkSpan(t, most, 1, 0, api.DayDen)
	checkSpan(t, most, 1, api.DayDen-1, api.DayDen)
	checkSpan(t, most, 1, 0, api.DayDen+1)
}

// 3.2: 0 days earn nothing and leave the carry itself.
func TestSpanOfNoDays(t *testing.T) {
	for _, principal := range principals {
		for _, rate := range rates {
			for _, carry := range carries {
				if cents, rest, ok := interest.Span(principal, rate, carry, 0); cents != 0 || rest != carry || !ok {
					t.Fatalf("3.2: Span(%d, %d, %d, 0) = %d, %d, %v", principal, rate, carry, cents, rest, ok)
				}
			}
		}
	}
}

// 3.2: a span is what its days are, one by one.
func TestSpanDayByDay(t *testing.T) {
	r := rand.New(rand.NewSource(32))
	for range 200 {
		principal, rate, carry := r.Int63n(most/400), r.Int63n(api.MaxRate+1), r.Int63n(api.DayDen)
		sum, left := int64(0), carry
		for days := range 400 {
			cents, rest, ok := interest.Span(principal, rate, carry, days)
			if cents != sum || rest != left || !ok {
				t.Fatalf("3.2: Span(%d, %d, %d, %d) = %d, %d, %v, day by day %d, %d", principal, rate, carry, days, cents, rest, ok, sum, left)
			}
			cents, left, ok = interest.Daily(principal, rate, left)
			if sum += cents; !ok {
				t.Fatalf("3.1: Daily(%d, %d, ..) refused", principal, rate)
			}
		}
	}
}

// 3.1, 3.2: drawn numbers of all sizes.
func TestDrawnDays(t *testing.T) {
	r := rand.New(rand.NewSource(31))
	for range 50000 {
		principal, rate, carry := r.Int63()>>r.Intn(63), r.Int63n(api.MaxRate+1), r.Int63n(api.DayDen)
		checkDaily(t, principal, rate, carry)
		checkSpan(t, principal, rate, carry, r.Intn(api.MaxDay+1)>>r.Intn(22))
	}
}

// 3.2: what Daily refuses and days below 0 or above MaxDay are refused, with zeros.
func TestSpanRefused(t *testing.T) {
	refused := func(principal, rate, carry int64, days int) {
		t.Helper()
		if cents, rest, ok := interest.Span(principal, rate, carry, days); cents != 0 || rest != 0 || ok {
			t.Errorf("3.2: Span(%d, %d, %d, %d) = %d, %d, %v", principal, rate, carry, days, cents, rest, ok)
		}
	}
	for _, days := range []int{0, 1, api.MaxDay} {
		for _, principal := range noPrincipals {
			refused(principal, 0, 7, days)
			refused(principal, 1200, 7, days)
		}
		for _, rate := range noRates {
			refused(0, rate, 7, days)
			refused(1, rate, 7, days)
		}
		for _, carry := range noCarries {
			refused(0, 0, carry, days)
			refused(1, 1200, carry, days)
		}
	}
	for _, days := range noSpans {
		refused(0, 0, 0, days)
		refused(36500, 1200, 7, days)
	}
}

// earns is a month's interest, the nearer of the two whole numbers about it, in numbers without an end.
func earns(balance *big.Int, rate int64) *big.Int {
	n := new(big.Int).Mul(balance, big.NewInt(rate))
	cents, rest := n.DivMod(n, big.NewInt(api.MonthDen), new(big.Int))
	twice := 2 * rest.Int64()
	if twice > api.MonthDen || twice == api.MonthDen && cents.Bit(0) == 1 {
		cents.Add(cents, big.NewInt(1))
	}
	return cents
}

func monthly(balance, rate int64) int64 {
	return earns(big.NewInt(balance), rate).Int64()
}

// 3.3: months at the ends of both ranges and drawn ones; never above the balance.
func TestMonth(t *testing.T) {
	check := func(balance, rate int64) {
		t.Helper()
		cents, ok := interest.Month(balance, rate)
		if want := monthly(balance, rate); cents != want || !ok {
			t.Fatalf("3.3: Month(%d, %d) = %d, %v, want %d", balance, rate, cents, ok, want)
		}
		if cents > balance {
			t.Fatalf("3.3: Month(%d, %d) = %d is above the balance", balance, rate, cents)
		}
	}
	for _, rate := range rates {
		for _, balance := range principals {
			check(balance, rate)
		}
		for balance := range int64(2000) {
			check(balance, rate)
		}
	}
	r := rand.New(rand.NewSource(33))
	for range 50000 {
		check(r.Int63()>>r.Intn(63), r.Int63n(api.MaxRate+1))
	}
}

// 3.3: a half goes to the even number, what lies beside it to the nearer one.
func TestMonthHalves(t *testing.T) {
	for _, c := range []struct{ balance, rate, cents int64 }{
		{49, 1200, 0}, {50, 1200, 0}, {51, 1200, 1},
		{149, 1200, 1}, {150, 1200, 2}, {151, 1200, 2},
		{249, 1200, 2}, {250, 1200, 2}, {251, 1200, 3},
		{350, 1200, 4}, {450, 1200, 4},
		{6, 10000, 0}, {18, 10000, 2}, {30, 10000, 2},
		{100000, 1200, 1000}, {1, 100000, 1}, {0, 100000, 0}, {most, 0, 0},
	} {
		if cents, ok := interest.Month(c.balance, c.rate); cents != c.cents || !ok {
			t.Errorf("3.3: Month(%d, %d) = %d, %v, want %d", c.balance, c.rate, cents, ok, c.cents)
		}
	}
}

// 3.3: a balance below 0 and what is no rate are refused, with 0.
func TestMonthRefused(t *testing.T) {
	for _, balance := range noPrincipals {
		if cents, ok := interest.Month(balance, 1200); cents != 0 || ok {
			t.Errorf("3.3: Month(%d, 1200) = %d, %v", balance, cents, ok)
		}
		if cents, ok := interest.Month(balance, 0); cents != 0 || ok {
			t.Errorf("3.3: Month(%d, 0) = %d, %v", balance, cents, ok)
		}
	}
	for _, rate := range noRates {
		for _, balance := range []int64{0, 1, 100000, most} {
			if cents, ok := interest.Month(balance, rate); cents != 0 || ok {
				t.Errorf("3.3: Month(%d, %d) = %d, %v", balance, rate, cents, ok)
			}
		}
	}
}
