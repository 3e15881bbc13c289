package statement_test

import (
	"math"
	"slices"
	"testing"

	"arrears/api"
	"arrears/statement"
)

const most, least = math.MaxInt64, math.MinInt64

// first is the day on which the tests' portfolios begin: 2021-07-29, a Thursday.
const first = 738000

// example is the policy of the chapter's examples.
func example() api.Policy {
	return api.Policy{
		FirstDay: first, Grace: 10, NonAccrual: 90, ChargeOff: 120,
		LateRate: 500, LateMin: 1500, LateMax: 10000, CycleCap: 20000, LifeCap: 50000,
		Promises: 3, PromiseDays: 14, Restructures: 2,
		Order: 0, Rule: 0, RetryBase: 2, RetryCap: 16, SnapEvery: 100,
	}
}

// with is the policy of the examples with a change.
func with(change func(p *api.Policy)) api.Policy {
	p := example()
	change(&p)
	return p
}

// refused are policies that may not be, by many of their fields.
func refused() []api.Policy {
	return []api.Policy{
		{},
		with(func(p *api.Policy) { p.FirstDay = 0 }),
		with(func(p *api.Policy) { p.FirstDay = api.MaxDay + 1 }),
		with(func(p *api.Policy) { p.Grace = 31 }),
		with(func(p *api.Policy) { p.NonAccrual = p.Grace }),
		with(func(p *api.Policy) { p.ChargeOff = 0 }),
		with(func(p *api.Policy) { p.LateRate = 10001 }),
		with(func(p *api.Policy) { p.LateMax = p.LateMin - 1 }),
		with(func(p *api.Policy) { p.LifeCap = -1 }),
		with(func(p *api.Policy) { p.Promises = 9 }),
		with(func(p *api.Policy) { p.Restructures = 5 }),
		with(func(p *api.Policy) { p.Order = 6 }),
		with(func(p *api.Policy) { p.Rule = -1 }),
		with(func(p *api.Policy) { p.RetryCap = 65 }),
		with(func(p *api.Policy) { p.SnapEvery = 1001 }),
		with(func(p *api.Policy) { p.Holidays = []int{5, 5} }),
		with(func(p *api.Policy) { p.Holidays = make([]int, api.MaxHolidays+1) }),
	}
}

// The operations, by what they use of an api.Op.
func open(number int, amount, rate int64, count, kind int) api.Op {
	return api.Op{Kind: api.OpOpen, Loan: number, Amount: amount, Rate: rate, Count: count, Days: kind}
}
func pay(number int, amount int64) api.Op {
	return api.Op{Kind: api.OpPay, Loan: number, Amount: amount}
}
func takeBack(number int) api.Op { return api.Op{Kind: api.OpReturn, Loan: number} }
func refund(number int, amount int64) api.Op {
	return api.Op{Kind: api.OpRefund, Loan: number, Amount: amount}
}
func waive(number int, amount int64) api.Op {
	return api.Op{Kind: api.OpWaive, Loan: number, Amount: amount}
}
func promise(number int, amount int64, days int) api.Op {
	return api.Op{Kind: api.OpPromise, Loan: number, Amount: amount, Days: days}
}
func restructure(number, count int, rate int64) api.Op {
	return api.Op{Kind: api.OpRestructure, Loan: number, Count: count, Rate: rate}
}
func days(n int) api.Op { return api.Op{Kind: api.OpDay, Days: n} }

// book is a book by pairs of an account and its net.
func book(pairs ...int64) api.Book {
	var b api.Book
	for i := 0; i < len(pairs); i += 2 {
		b.Net[pairs[i]] = pairs[i+1]
	}
	return b
}

// move is a movement whose change is told by pairs of an account and a number.
func move(day, kind int, pairs ...int64) api.Movement {
	return api.Movement{Day: day, Kind: kind, Change: book(pairs...)}
}

// ops are the operations of the chapter's example.
func ops() []api.Op {
	return []api.Op{open(7, 120000, 0, 12, api.PlanLevel), days(42), pay(7, 11500), pay(8, 100), {Kind: api.OpToday}, refund(7, 1)}
}

// these are the movements of the chapter's example.
func these() []api.Movement {
	return []api.Movement{
		move(738000, api.OpOpen, api.Principal, 120000, api.Funding, -120000),
		move(738042, api.OpDay, api.Fees, 1500, api.FeeIncome, -1500),
		move(738042, api.OpPay, api.Cash, 11500, api.Fees, -1500, api.Principal, -10000),
	}
}

// moves holds Moves to its movements.
func moves(t *testing.T, p api.Policy, ops []api.Op, id int, want ...api.Movement) {
	t.Helper()
	got, why := statement.Moves(p, ops, id)
	if why != api.OK || len(got) != len(want) {
		t.Errorf("22.1: Moves of loan %d and %+v = %d movements, %d, want %d, OK", id, ops, len(got), why, len(want))
	}
	for i := range min(len(got), len(want)) {
		if got[i] != want[i] {
			t.Errorf("22.1: Moves of loan %d and %+v has at %d %+v, want %+v", id, ops, i, got[i], want[i])
			return
		}
	}
}

// comes holds Upto to its book.
func comes(t *testing.T, list []api.Movement, day int, want api.Book) {
	t.Helper()
	if got, ok := statement.Upto(list, day); got != want || !ok {
		t.Errorf("22.2: Upto(%+v, %d) = %v, %v, want %v, true", list, day, got, ok, want)
	}
}

// comesToNone holds Upto to its refusal.
func comesToNone(t *testing.T, list []api.Movement, day int) {
	t.Helper()
	if got, ok := statement.Upto(list, day); got != (api.Book{}) || ok {
		t.Errorf("22.2: Upto(%+v, %d) = %v, %v, want a refusal", list, day, got, ok)
	}
}

// holds holds Within to its movements.
func holds(t *testing.T, list []api.Movement, from, to int, want ...api.Movement) {
	t.Helper()
	if got := statement.Within(list, from, to); !slices.Equal(got, want) {
		t.Errorf("22.3: Within(%+v, %d, %d) = %+v, want %+v", list, from, to, got, want)
	}
}

// tells holds Lines to its lines.
func tells(t *testing.T, list []api.Movement, from, to int, want ...string) {
	t.Helper()
	if got, ok := statement.Lines(list, from, to); !slices.Equal(got, want) || !ok {
		t.Errorf("22.4: Lines(%+v, %d, %d) = %q, %v, want %q, true", list, from, to, got, ok, want)
	}
}

// tellsNone holds Lines to its refusal.
func tellsNone(t *testing.T, list []api.Movement, from, to int) {
	t.Helper()
	if got, ok := statement.Lines(list, from, to); len(got) != 0 || ok {
		t.Errorf("22.4: Lines(%+v, %d, %d) = %q, %v, want a refusal", list, from, to, got, ok)
	}
}

// The chapter's examples, row by row.
func TestExamples(t *testing.T) {
	moves(t, example(), ops(), 7, these()...)
	tells(t, these(), 738001, 738042,
		"FROM 2021-07-30 TO 2021-09-09",
		"OPENING 1200.00 0.00 0.00 0.00",
		"2021-09-09 day 0.00 0.00 +15.00 0.00",
		"2021-09-09 pay -100.00 0.00 -15.00 0.00",
		"CLOSING 1100.00 0.00 0.00 0.00")
	moves(t, example(), ops(), 8)
	comes(t, these(), 738041, book(api.Principal, 120000, api.Funding, -120000))
	comes(t, nil, 5, api.Book{})
	comes(t, these(), 737999, api.Book{})
	holds(t, these(), 738042, 738042, these()[1:]...)
	holds(t, these(), 5, 4)
	tellsNone(t, these(), 738042, 738041)
	tellsNone(t, these(), 0, 5)
	tellsNone(t, these(), 1, 3652060)
	tells(t, nil, 1, 1, "FROM 0001-01-01 TO 0001-01-01", "OPENING 0.00 0.00 0.00 0.00", "CLOSING 0.00 0.00 0.00 0.00")
}
