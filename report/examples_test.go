package report_test

import (
	"math"
	"slices"
	"testing"

	"arrears/api"
	"arrears/engine"
	"arrears/report"
)

const most, least = math.MaxInt64, math.MinInt64

// first is the day on which the tests' portfolios begin: 2021-07-29, a Thursday.
const first = 738000

// example is the policy of the chapter's examples.
func example() api.Policy {
	return api.Policy{
		FirstDay: first, Grace: 10, NonAccrual: 90, ChargeOff: 120,
		LateRate: 500, LateMin: 1500, LateMax: 10000, CycleCap: 20000, LifeCap: 50000,
		Promises: 3, PromiseDays: 14, Restructures: 2,
		Order: 0, Rule: 0, RetryBase: 2, RetryCap: 16, SnapEvery: 100,
	}
}

// with is the policy of the examples with a change.
func with(change func(p *api.Policy)) api.Policy {
	p := example()
	change(&p)
	return p
}

// refused are policies that may not be, by many of their fields.
func refused() []api.Policy {
	return []api.Policy{
		{},
		with(func(p *api.Policy) { p.FirstDay = 0 }),
		with(func(p *api.Policy) { p.Grace = 31 }),
		with(func(p *api.Policy) { p.NonAccrual = p.Grace }),
		with(func(p *api.Policy) { p.ChargeOff = 0 }),
		with(func(p *api.Policy) { p.LateRate = 10001 }),
		with(func(p *api.Policy) { p.LateMax = p.LateMin - 1 }),
		with(func(p *api.Policy) { p.LifeCap = -1 }),
		with(func(p *api.Policy) { p.Promises = 9 }),
		with(func(p *api.Policy) { p.Restructures = 5 }),
		with(func(p *api.Policy) { p.Order = 6 }),
		with(func(p *api.Policy) { p.Rule = -1 }),
		with(func(p *api.Policy) { p.RetryCap = 65 }),
		with(func(p *api.Policy) { p.SnapEvery = 1001 }),
		with(func(p *api.Policy) { p.Holidays = []int{5, 5} }),
		with(func(p *api.Policy) { p.Holidays = make([]int, api.MaxHolidays+1) }),
	}
}

// The operations, by what they use of an api.Op.
func open(number int, amount, rate int64, count, kind int) api.Op {
	return api.Op{Kind: api.OpOpen, Loan: number, Amount: amount, Rate: rate, Count: count, Days: kind}
}
func pay(number int, amount int64) api.Op {
	return api.Op{Kind: api.OpPay, Loan: number, Amount: amount}
}
func promise(number int, amount int64, days int) api.Op {
	return api.Op{Kind: api.OpPromise, Loan: number, Amount: amount, Days: days}
}
func restructure(number, count int, rate int64) api.Op {
	return api.Op{Kind: api.OpRestructure, Loan: number, Count: count, Rate: rate}
}
func days(n int) api.Op { return api.Op{Kind: api.OpDay, Days: n} }

// lived is a portfolio behind operations that must be taken.
func lived(t *testing.T, p api.Policy, ops ...api.Op) api.State {
	t.Helper()
	e, why := engine.New(p)
	if why != api.OK {
		t.Fatalf("15.1: New(%+v) = %d", p, why)
	}
	for _, o := range ops {
		if r := e.Apply(o); r.Err != api.OK {
			t.Fatalf("15.5: Apply(%+v) = %d", o, r.Err)
		}
	}
	return e.Save()
}

// late is the loan of chapter 14's examples, behind its 42 days.
func late(t *testing.T) api.State {
	t.Helper()
	return lived(t, example(), open(1, 3650000, 1000, 2, api.PlanEqual), days(42))
}

// tapes holds Tape to its lines.
func tapes(t *testing.T, p api.Policy, s api.State, want ...string) {
	t.Helper()
	if got := report.Tape(p, s); !slices.Equal(got, want) {
		t.Errorf("21.1: Tape = %q, want %q", got, want)
	}
}

// tells holds Letter to a text.
func tells(t *testing.T, n api.Notice, want string) {
	t.Helper()
	if got, ok := report.Letter(n); got != want || !ok {
		t.Errorf("21.2: Letter(%+v) = %q, %v, want %q, true", n, got, ok, want)
	}
}

// tellsNone holds Letter to its refusal.
func tellsNone(t *testing.T, n api.Notice) {
	t.Helper()
	if got, ok := report.Letter(n); got != "" || ok {
		t.Errorf("21.2: Letter(%+v) = %q, %v, want a refusal", n, got, ok)
	}
}

// reads holds ReadLetter to a notice.
func reads(t *testing.T, text string, want api.Notice) {
	t.Helper()
	if got, ok := report.ReadLetter(text); got != want || !ok {
		t.Errorf("21.3: ReadLetter(%.120q) = %+v, %v, want %+v, true", text, got, ok, want)
	}
}

// readsNone holds ReadLetter to its refusal.
func readsNone(t *testing.T, text string) {
	t.Helper()
	if got, ok := report.ReadLetter(text); got != (api.Notice{}) || ok {
		t.Errorf("21.3: ReadLetter(%.120q) = %+v, %v, want a refusal", text, got, ok)
	}
}

// rolls holds Roll to its numbers.
func rolls(t *testing.T, p api.Policy, before, after api.State, want [7][7]int) {
	t.Helper()
	if got := report.Roll(p, before, after); got != want {
		t.Errorf("21.5: Roll = %v, want %v", got, want)
	}
}

// sets holds Allowance to its amounts.
func sets(t *testing.T, p api.Policy, s api.State, rates, want [5]int64) {
	t.Helper()
	if got, ok := report.Allowance(p, s, rates); got != want || !ok {
		t.Errorf("21.6: Allowance by %v = %v, %v, want %v, true", rates, got, ok, want)
	}
}

// setsNone holds Allowance to its refusal.
func setsNone(t *testing.T, p api.Policy, s api.State, rates [5]int64) {
	t.Helper()
	if got, ok := report.Allowance(p, s, rates); got != [5]int64{} || ok {
		t.Errorf("21.6: Allowance by %v = %v, %v, want a refusal", rates, got, ok)
	}
}

// tries holds Trial to its sums, or to its refusal.
func tries(t *testing.T, s api.State, debit, credit int64, fits bool) {
	t.Helper()
	if d, c, ok := report.Trial(s); d != debit || c != credit || ok != fits {
		t.Errorf("21.7: Trial = %d, %d, %v, want %d, %d, %v", d, c, ok, debit, credit, fits)
	}
}

// The chapter's examples, row by row.
func TestExamples(t *testing.T) {
	arrears := api.Notice{ID: 12, Loan: 7, Kind: 2, Day: 738042, Amount: 1855417}
	tells(t, arrears, "Notice 12 of 2021-09-09: loan 7 is in arrears; 18554.17 is past due.")
	tells(t, api.Notice{ID: 1, Loan: 999999, Kind: 8, Day: 1}, "Notice 1 of 0001-01-01: loan 999999 is paid off; 0.00 is owed.")
	tells(t, api.Notice{ID: 3, Loan: 4, Kind: 5, Day: 730179, Amount: 1500, Acked: true}, "Notice 3 of 2000-02-29: a late fee of 15.00 was charged to loan 4.")
	for _, spoil := range []func(n *api.Notice){
		func(n *api.Notice) { n.Kind = 10 },
		func(n *api.Notice) { n.Day = 0 },
		func(n *api.Notice) { n.ID = 0 },
		func(n *api.Notice) { n.Loan = -1 },
		func(n *api.Notice) { n.Amount = -1 },
	} {
		n := arrears
		spoil(&n)
		tellsNone(t, n)
	}

	reads(t, "Notice 12 of 2021-09-09: loan 7 is in arrears; 18554.17 is past due.", arrears)
	readsNone(t, "Notice 012 of 2021-09-09: loan 7 is in arrears; 18554.17 is past due.")
	readsNone(t, "Notice 1 of 2021-02-29: loan 7 is paid off; 0.00 is owed.")
	readsNone(t, "")

	tapes(t, example(), late(t), "1 delinquent 11 1 18554.17 100.00 420.00 36500.00 0.00 2021-08-29")
	sets(t, example(), late(t), [5]int64{100, 200, 500, 1000, 2000}, [5]int64{0, 74040, 0, 0, 0})
	setsNone(t, example(), late(t), [5]int64{0, 0, 0, 0, 10001})
	tries(t, api.State{}, 0, 0, true)
}
