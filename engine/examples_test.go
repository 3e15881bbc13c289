package engine_test

import (
	"math"
	"slices"
	"testing"

	"arrears/api"
	"arrears/engine"
)

const most, least = math.MaxInt64, math.MinInt64

// first is the day on which the tests' portfolios begin: 2021-07-29, a Thursday.
const first = 738000

// example is the policy of the chapter's examples.
func example() api.Policy {
	return api.Policy{
		FirstDay: first, Grace: 10, NonAccrual: 90, ChargeOff: 120,
		LateRate: 500, LateMin: 1500, LateMax: 10000, CycleCap: 20000, LifeCap: 50000,
		Promises: 3, PromiseDays: 14, Restructures: 2,
		Order: 0, Rule: 0, RetryBase: 2, RetryCap: 16, SnapEvery: 100,
	}
}

// with is the policy of the examples with a change.
func with(change func(p *api.Policy)) api.Policy {
	p := example()
	change(&p)
	return p
}

// sameLoan compares loans; a plan without rows may be nil or empty.
func sameLoan(a, b api.Loan) bool {
	return a.ID == b.ID && a.Terms == b.Terms && slices.Equal(a.Plan, b.Plan) && a.Book == b.Book && a.Case == b.Case &&
		a.Day == b.Day && a.Carry == b.Carry && a.Applied == b.Applied && a.Last == b.Last && a.HasLast == b.HasLast &&
		a.ChargedOff == b.ChargedOff && a.Trace == b.Trace
}

// sameState compares portfolios.
func sameState(a, b api.State) bool {
	return a.Today == b.Today && slices.EqualFunc(a.Loans, b.Loans, sameLoan) && slices.Equal(a.Notices, b.Notices)
}

// sameReply compares replies.
func sameReply(a, b api.Reply) bool {
	return a.Err == b.Err && slices.Equal(a.Nums, b.Nums)
}

// kept is a copy of a State that shares nothing with it.
func kept(s api.State) api.State {
	s.Loans, s.Notices = slices.Clone(s.Loans), slices.Clone(s.Notices)
	for i := range s.Loans {
		s.Loans[i].Plan = slices.Clone(s.Loans[i].Plan)
	}
	return s
}

// The operations and queries, by what they use of an api.Op.
func open(number int, amount, rate int64, count, kind int) api.Op {
	return api.Op{Kind: api.OpOpen, Loan: number, Amount: amount, Rate: rate, Count: count, Days: kind}
}
func pay(number int, amount int64) api.Op {
	return api.Op{Kind: api.OpPay, Loan: number, Amount: amount}
}
func traced(number int, amount int64, trace int) api.Op {
	return api.Op{Kind: api.OpPay, Loan: number, Amount: amount, Count: trace}
}
func giveBack(number int) api.Op { return api.Op{Kind: api.OpReturn, Loan: number} }
func refund(number int, amount int64) api.Op {
	return api.Op{Kind: api.OpRefund, Loan: number, Amount: amount}
}
func waive(number int, amount int64) api.Op {
	return api.Op{Kind: api.OpWaive, Loan: number, Amount: amount}
}
func promise(number int, amount int64, days int) api.Op {
	return api.Op{Kind: api.OpPromise, Loan: number, Amount: amount, Days: days}
}
func restructure(number, count int, rate int64) api.Op {
	return api.Op{Kind: api.OpRestructure, Loan: number, Count: count, Rate: rate}
}
func days(n int) api.Op               { return api.Op{Kind: api.OpDay, Days: n} }
func query(kind int) api.Op           { return api.Op{Kind: kind} }
func queryOf(kind, number int) api.Op { return api.Op{Kind: kind, Loan: number} }

// story is a portfolio's life, call by call.
type story struct {
	t *testing.T
	p api.Policy
	e *engine.Engine
}

// begin is a new portfolio.
func begin(t *testing.T, p api.Policy) *story {
	t.Helper()
	e, why := engine.New(p)
	if e == nil || why != api.OK {
		t.Fatalf("15.1: New(%+v) = %v, %d", p, e, why)
	}
	return &story{t, p, e}
}

// loaded is a portfolio taken up.
func loaded(t *testing.T, p api.Policy, s api.State) *story {
	t.Helper()
	e, why := engine.Load(p, s)
	if e == nil || why != api.OK {
		t.Fatalf("15.2: Load of %+v = %v, %d", s, e, why)
	}
	return &story{t, p, e}
}

// goes does an operation that must be taken, and holds it to its numbers and Check to OK.
func (s *story) goes(o api.Op, nums ...int64) {
	s.t.Helper()
	if why := s.e.Check(o); why != api.OK {
		s.t.Errorf("15.4: Check(%+v) = %d", o, why)
	}
	if r := s.e.Apply(o); !sameReply(r, api.Reply{Nums: nums}) {
		s.t.Errorf("15.5: Apply(%+v) = %d %v, want OK %v", o, r.Err, r.Nums, nums)
	}
}

// does does an operation that must be taken, whatever it tells.
func (s *story) does(list ...api.Op) {
	s.t.Helper()
	for _, o := range list {
		if r := s.e.Apply(o); r.Err != api.OK {
			s.t.Fatalf("15.5: Apply(%+v) = %d", o, r.Err)
		}
	}
}

// fails holds an operation to its refusal, by which nothing changes.
func (s *story) fails(why api.Errno, list ...api.Op) {
	s.t.Helper()
	before, timers := s.e.Save(), s.e.Timers()
	for _, o := range list {
		if got := s.e.Check(o); got != why {
			s.t.Errorf("15.4: Check(%+v) = %d, want %d", o, got, why)
		}
		if r := s.e.Apply(o); !sameReply(r, api.Reply{Err: why}) {
			s.t.Errorf("15.5: Apply(%+v) = %d %v, want %d", o, r.Err, r.Nums, why)
		}
		if !sameState(s.e.Save(), before) || !slices.Equal(s.e.Timers(), timers) {
			s.t.Errorf("15.5: %+v is refused and changes something", o)
		}
	}
}

// asks holds a query to its numbers.
func (s *story) asks(o api.Op, nums ...int64) {
	s.t.Helper()
	if r := s.e.Ask(o); !sameReply(r, api.Reply{Nums: nums}) {
		s.t.Errorf("15.6: Ask(%+v) = %d %v, want OK %v", o, r.Err, r.Nums, nums)
	}
}

// asksNone holds a query to its refusal.
func (s *story) asksNone(o api.Op, why api.Errno) {
	s.t.Helper()
	if r := s.e.Ask(o); !sameReply(r, api.Reply{Err: why}) {
		s.t.Errorf("15.6: Ask(%+v) = %d %v, want %d", o, r.Err, r.Nums, why)
	}
}

// acknowledges holds Acknowledge to its answer.
func (s *story) acknowledges(id int, want bool) {
	s.t.Helper()
	if got := s.e.Acknowledge(id); got != want {
		s.t.Errorf("15.7: Acknowledge(%d) = %v", id, got)
	}
}

// owes holds Unacknowledged to these notices.
func (s *story) owes(want ...api.Notice) {
	s.t.Helper()
	if got := s.e.Unacknowledged(); !slices.Equal(got, want) {
		s.t.Errorf("15.8: Unacknowledged = %+v, want %+v", got, want)
	}
}

// loan is a loan as Save tells it.
func (s *story) loan(number int) api.Loan {
	s.t.Helper()
	for _, l := range s.e.Save().Loans {
		if l.ID == number {
			return l
		}
	}
	s.t.Fatalf("15.3: Save tells no loan %d", number)
	return api.Loan{}
}

// The chapter's examples, one call behind the other.
func TestExamples(t *testing.T) {
	s := begin(t, example())
	s.asks(query(api.OpToday), 738000, 0)
	s.goes(open(7, 120000, 0, 12, api.PlanLevel), 12, 738031, 10000)
	s.fails(api.ErrExists, open(7, 120000, 0, 12, api.PlanLevel))
	s.fails(api.ErrArg, open(0, 120000, 0, 12, api.PlanLevel))
	s.fails(api.ErrNoLoan, pay(8, 100))
	s.fails(api.ErrAmount, pay(7, 0))
	s.fails(api.ErrKind, api.Op{Kind: api.OpTick, Days: 1})
	s.asksNone(days(1), api.ErrKind)
	s.fails(api.ErrArg, days(61))
	s.asks(query(api.OpTimers), 738032, 7, 2)
	s.goes(days(31), 738031, 0)
	s.goes(days(11), 738042, 2)
	s.asks(queryOf(api.OpLoan, 7), 3, 11, 1, 10000, 1500, 0, 120000, 0, 0, 1, 0, 0, 0, 0, 0, 0, 738162, 738031, 1500, 0, 0)
	s.asks(query(api.OpNotices), 2, 0)
	delinquent := api.Notice{ID: 1, Loan: 7, Kind: 2, Day: 738042, Amount: 10000}
	s.owes(delinquent, api.Notice{ID: 2, Loan: 7, Kind: 5, Day: 738042, Amount: 1500})
	s.acknowledges(2, true)
	s.acknowledges(2, false)
	s.acknowledges(3, false)
	s.owes(delinquent)
	s.asks(query(api.OpNotices), 2, 1)
	s.goes(pay(7, 11500), 1500, 0, 10000, 0, 0, 6)
	s.asks(query(api.OpAging), 1, 110000, 0, 0, 0, 0, 0, 0, 0, 0, 0, 0)
	s.asks(query(api.OpBooks), 11500, 110000, 0, 0, 0, 0, 120000, 0, 1500, 0, 0, 0)
}
