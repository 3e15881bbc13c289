package backdate_test

import (
	"math"
	"reflect"
	"slices"
	"testing"

	"arrears/api"
	"arrears/backdate"
)

const most, least = math.MaxInt64, math.MinInt64

// first is the day on which the tests' portfolios begin: 2021-07-29, a Thursday.
const first = 738000

// example is the policy of the chapter's examples.
func example() api.Policy {
	return api.Policy{
		FirstDay: first, Grace: 10, NonAccrual: 90, ChargeOff: 120,
		LateRate: 500, LateMin: 1500, LateMax: 10000, CycleCap: 20000, LifeCap: 50000,
		Promises: 3, PromiseDays: 14, Restructures: 2,
		Order: 0, Rule: 0, RetryBase: 2, RetryCap: 16, SnapEvery: 100,
	}
}

// with is the policy of the examples with a change.
func with(change func(p *api.Policy)) api.Policy {
	p := example()
	change(&p)
	return p
}

// refused are policies that may not be, by many of their fields.
func refused() []api.Policy {
	return []api.Policy{
		{},
		with(func(p *api.Policy) { p.FirstDay = 0 }),
		with(func(p *api.Policy) { p.FirstDay = api.MaxDay + 1 }),
		with(func(p *api.Policy) { p.Grace = 31 }),
		with(func(p *api.Policy) { p.NonAccrual = p.Grace }),
		with(func(p *api.Policy) { p.ChargeOff = 0 }),
		with(func(p *api.Policy) { p.LateMax = p.LateMin - 1 }),
		with(func(p *api.Policy) { p.Promises = 9 }),
		with(func(p *api.Policy) { p.Order = 6 }),
		with(func(p *api.Policy) { p.Rule = -1 }),
		with(func(p *api.Policy) { p.RetryCap = 65 }),
		with(func(p *api.Policy) { p.SnapEvery = 1001 }),
		with(func(p *api.Policy) { p.Holidays = []int{5, 5} }),
		with(func(p *api.Policy) { p.Holidays = make([]int, api.MaxHolidays+1) }),
	}
}

// The operations, by what they use of an api.Op.
func open(number int, amount, rate int64, count, kind int) api.Op {
	return api.Op{Kind: api.OpOpen, Loan: number, Amount: amount, Rate: rate, Count: count, Days: kind}
}
func pay(number int, amount int64) api.Op {
	return api.Op{Kind: api.OpPay, Loan: number, Amount: amount}
}
func traced(number int, amount int64, trace int) api.Op {
	return api.Op{Kind: api.OpPay, Loan: number, Amount: amount, Count: trace}
}
func takeBack(number int) api.Op { return api.Op{Kind: api.OpReturn, Loan: number} }
func refund(number int, amount int64) api.Op {
	return api.Op{Kind: api.OpRefund, Loan: number, Amount: amount}
}
func waive(number int, amount int64) api.Op {
	return api.Op{Kind: api.OpWaive, Loan: number, Amount: amount}
}
func promise(number int, amount int64, days int) api.Op {
	return api.Op{Kind: api.OpPromise, Loan: number, Amount: amount, Days: days}
}
func restructure(number, count int, rate int64) api.Op {
	return api.Op{Kind: api.OpRestructure, Loan: number, Count: count, Rate: rate}
}
func days(n int) api.Op { return api.Op{Kind: api.OpDay, Days: n} }

// today is a query: no operation of a history.
func today() api.Op { return api.Op{Kind: api.OpToday} }

// opened is the loan of the chapter's examples: twelve rows of 100.00, the first due on 738031.
func opened() api.Op { return open(7, 120000, 0, 12, api.PlanLevel) }

// history is the chapter's H.
func history() []api.Op {
	return []api.Op{opened(), today(), days(42), pay(7, 11500)}
}

// book is a book by pairs of an account and its net.
func book(pairs ...int64) api.Book {
	var b api.Book
	for i := 0; i < len(pairs); i += 2 {
		b.Net[pairs[i]] = pairs[i+1]
	}
	return b
}

// entry is a move of an amount from one account to another.
func entry(debit, credit int, amount int64) api.Entry {
	return api.Entry{Debit: debit, Credit: credit, Amount: amount}
}

// inserts holds Insert to its history.
func inserts(t *testing.T, p api.Policy, ops []api.Op, day int, o api.Op, want ...api.Op) {
	t.Helper()
	if got, why := backdate.Insert(p, ops, day, o); !slices.Equal(got, want) || why != api.OK {
		t.Errorf("23.1: Insert(%+v, %d, %+v) = %+v, %d, want %+v, OK", ops, day, o, got, why, want)
	}
}

// refuses holds the three calls to one error, and to nothing beside it.
func refuses(t *testing.T, p api.Policy, ops []api.Op, day int, o api.Op, want api.Errno) {
	t.Helper()
	if got, why := backdate.Insert(p, ops, day, o); len(got) != 0 || why != want {
		t.Errorf("23.1: Insert(%+v, %d, %+v) = %+v, %d, want none, %d", ops, day, o, got, why, want)
	}
	if l, change, why := backdate.Correct(p, ops, day, o); !reflect.DeepEqual(l, api.Loan{}) || change != (api.Book{}) || why != want {
		t.Errorf("23.2: Correct(%+v, %d, %+v) = %+v, %v, %d, want zeros, %d", ops, day, o, l, change, why, want)
	}
	if got, why := backdate.Upset(p, ops, day, o); len(got) != 0 || why != want {
		t.Errorf("23.3: Upset(%+v, %d, %+v) = %v, %d, want none, %d", ops, day, o, got, why, want)
	}
}

// corrects holds Correct to its change, told by pairs of an account and a number, and hands out the loan.
func corrects(t *testing.T, p api.Policy, ops []api.Op, day int, o api.Op, pairs ...int64) api.Loan {
	t.Helper()
	l, change, why := backdate.Correct(p, ops, day, o)
	if change != book(pairs...) || why != api.OK {
		t.Errorf("23.2: Correct(%+v, %d, %+v) changes %v, %d, want %v, OK", ops, day, o, change, why, book(pairs...))
	}
	return l
}

// upsets holds Upset to its places.
func upsets(t *testing.T, p api.Policy, ops []api.Op, day int, o api.Op, want ...int) {
	t.Helper()
	if got, why := backdate.Upset(p, ops, day, o); !slices.Equal(got, want) || why != api.OK {
		t.Errorf("23.3: Upset(%+v, %d, %+v) = %v, %d, want %v, OK", ops, day, o, got, why, want)
	}
}

// settles holds Entries to its moves.
func settles(t *testing.T, change api.Book, want ...api.Entry) {
	t.Helper()
	if got, ok := backdate.Entries(change); !slices.Equal(got, want) || !ok {
		t.Errorf("23.4: Entries(%v) = %+v, %v, want %+v, true", change, got, ok, want)
	}
}

// settlesNot holds Entries to its refusal.
func settlesNot(t *testing.T, change api.Book) {
	t.Helper()
	if got, ok := backdate.Entries(change); len(got) != 0 || ok {
		t.Errorf("23.4: Entries(%v) = %+v, %v, want a refusal", change, got, ok)
	}
}

// The chapter's examples, row by row.
func TestExamples(t *testing.T) {
	p, h := example(), history()
	inserts(t, p, h, 738031, pay(7, 10000), opened(), days(31), pay(7, 10000), days(11), pay(7, 11500))
	inserts(t, p, h, 738000, pay(7, 10000), opened(), pay(7, 10000), days(42), pay(7, 11500))
	inserts(t, p, h, 738042, pay(7, 100), opened(), days(42), pay(7, 11500), pay(7, 100))

	l := corrects(t, p, h, 738031, pay(7, 10000), api.Cash, 10000, api.Principal, -11500, api.FeeIncome, 1500)
	if l.ID != 7 || l.Case.Status != api.Current || l.Case.LifeFees != 0 || l.Case.Cycles != 0 || l.Book.Net[api.Principal] != 98500 {
		t.Errorf("23.2: the corrected loan is %+v", l)
	}
	_, change, _ := backdate.Correct(p, h, 738031, pay(7, 10000))
	settles(t, change, entry(0, 1, 10000), entry(8, 1, 1500))

	upsets(t, p, h, 738031, pay(7, 10000))
	upsets(t, p, slices.Insert(history(), 3, waive(7, 100)), 738031, pay(7, 10000), 3)

	refuses(t, p, h, 737999, pay(7, 10000), api.ErrDate)
	refuses(t, p, h, 738043, pay(7, 10000), api.ErrDate)
	refuses(t, p, h, 738031, days(1), api.ErrKind)
	refuses(t, p, h, 738031, takeBack(7), api.ErrKind)
	refuses(t, p, h, 738031, pay(8, 100), api.ErrNoLoan)
	refuses(t, p, h, 738031, waive(7, 100), api.ErrFunds)
	refuses(t, p, h, 738031, pay(7, 0), api.ErrAmount)

	settlesNot(t, book(api.Cash, 5))
	settlesNot(t, book(api.Cash, most, api.Fees, 1, api.Funding, least))
	settles(t, api.Book{})
}
