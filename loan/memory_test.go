package loan_test

import (
	"slices"
	"testing"

	"arrears/api"
	"arrears/loan"
)

// call is one call that answers an Outcome, by its name.
type call struct {
	name string
	do   func(p api.Policy, l api.Loan) api.Outcome
}

// calls are all that go from a loan to a loan, with numbers that most loans take.
func calls() []call {
	return []call{
		{"Pay", func(p api.Policy, l api.Loan) api.Outcome { return loan.Pay(p, l, 20000) }},
		{"Pay all", func(p api.Policy, l api.Loan) api.Outcome { return loan.Pay(p, l, 9000000) }},
		{"Return", loan.Return},
		{"Refund", func(p api.Policy, l api.Loan) api.Outcome { return loan.Refund(p, l, 1) }},
		{"Waive", func(p api.Policy, l api.Loan) api.Outcome { return loan.Waive(p, l, 1) }},
		{"Promise", func(p api.Policy, l api.Loan) api.Outcome { return loan.Promise(p, l, 500, 3) }},
		{"Restructure", func(p api.Policy, l api.Loan) api.Outcome { return loan.Restructure(p, l, 4, 100) }},
		{"Roll", loan.Roll},
		{"Accrue", func(p api.Policy, l api.Loan) api.Outcome { return loan.Accrue(p, l, 7) }},
	}
}

// refused are calls whose numbers are wrong.
func refused() []call {
	return []call{
		{"Pay 0", func(p api.Policy, l api.Loan) api.Outcome { return loan.Pay(p, l, 0) }},
		{"Refund 0", func(p api.Policy, l api.Loan) api.Outcome { return loan.Refund(p, l, 0) }},
		{"Waive 0", func(p api.Policy, l api.Loan) api.Outcome { return loan.Waive(p, l, 0) }},
		{"Promise 0", func(p api.Policy, l api.Loan) api.Outcome { return loan.Promise(p, l, 0, 0) }},
		{"Restructure 0", func(p api.Policy, l api.Loan) api.Outcome { return loan.Restructure(p, l, 0, 0) }},
		{"Accrue -1", func(p api.Policy, l api.Loan) api.Outcome { return loan.Accrue(p, l, -1) }},
	}
}

// loans are of all statuses, made under the strict policy, with a payment that could be returned where there may be one.
func loans(t *testing.T) []api.Loan {
	t.Helper()
	p := strict()
	at := func(day int, more ...func(p api.Policy, l api.Loan) api.Outcome) api.Loan {
		s := begin(t, p, termsA())
		s.to(day)
		for _, do := range more {
			s.goes(do(p, s.l))
		}
		return s.l
	}
	pay := func(amount int64) func(p api.Policy, l api.Loan) api.Outcome {
		return func(p api.Policy, l api.Loan) api.Outcome { return loan.Pay(p, l, amount) }
	}
	promise := func(p api.Policy, l api.Loan) api.Outcome { return loan.Promise(p, l, 90000, 5) }
	return []api.Loan{
		at(738000), at(738010, pay(5)), at(738035), at(738041, pay(100)), at(738042), at(738050, pay(12000)),
		at(738045, promise), at(738055, promise, pay(30000)), at(738056), at(738071, pay(9)), at(738060, pay(1900000)),
		at(738060, calls()[6].do), at(738072), at(738080, pay(10000)), at(738042, pay(9000000)), at(738000, pay(3650000)),
	}
}

// guarded lays a list into the midst of a longer memory, and hands out that memory too.
func guarded[T any](list []T, guard T) (inside, all []T) {
	all = slices.Concat([]T{guard, guard}, list, slices.Repeat([]T{guard}, 16))
	return all[2 : 2+len(list)], all
}

// What holds everywhere: a plan and holidays that are handed in stay as they are, what lies around them too.
func TestListsStay(t *testing.T) {
	for _, l := range loans(t) {
		plan, around := guarded(l.Plan, api.Instalment{Due: 7, Interest: 7, Principal: 7})
		holidays, near := guarded([]int{738062, 738092}, 77)
		before, ahead := slices.Clone(around), slices.Clone(near)
		p := strict()
		p.Holidays, l.Plan = holidays, plan
		for _, c := range slices.Concat(calls(), refused()) {
			c.do(p, l)
		}
		loan.Open(p, 5, termsA())
		loan.Timers(p, l)
		loan.Look(p, l)
		if !slices.Equal(around, before) || !slices.Equal(near, ahead) {
			t.Errorf("14: lists that were handed in are changed: %v, %v", around, near)
		}
	}
}

// scribble writes over a list and over its spare room.
func scribble[T any](list []T, with T) {
	list = list[:cap(list)]
	for i := range list {
		list[i] = with
	}
}

// What holds everywhere: an answer is new memory, of a refused call too, and no later call changes it.
func TestAnswersAreNew(t *testing.T) {
	p := strict()
	ill := api.Policy{}
	for _, l := range loans(t) {
		kept := slices.Clone(l.Plan)
		for _, c := range slices.Concat(calls(), refused()) {
			for _, p := range []api.Policy{p, ill} {
				first, second := c.do(p, l), c.do(p, l)
				whole := api.Outcome{Loan: second.Loan, Parts: second.Parts, Notices: slices.Clone(second.Notices), Err: second.Err}
				whole.Loan.Plan = slices.Clone(second.Loan.Plan)
				scribble(first.Loan.Plan, api.Instalment{Due: 5, Marked: true})
				scribble(first.Notices, api.Notice{ID: 5})
				if third := c.do(p, l); !sameOutcome(second, whole) || !sameOutcome(third, whole) || !slices.Equal(l.Plan, kept) {
					t.Errorf("14: the answers of %s share memory: %+v, %+v, want %+v", c.name, second, third, whole)
				}
			}
		}
		timers := loan.Timers(p, l)
		want := slices.Clone(timers)
		other := loan.Timers(p, l)
		scribble(timers, api.Timer{Day: 5})
		if !slices.Equal(other, want) || !slices.Equal(loan.Timers(p, l), want) {
			t.Errorf("14.10: the answers of Timers share memory")
		}
	}
}

// What holds everywhere: nothing is kept: the same call answers the same, whatever was called in between.
func TestNothingIsKept(t *testing.T) {
	p := strict()
	list := loans(t)
	for i, l := range list {
		other := list[(i+5)%len(list)]
		for _, c := range calls() {
			want := c.do(p, l)
			for _, d := range slices.Concat(calls(), refused()) {
				d.do(p, other)
				d.do(api.Policy{}, other)
			}
			if got := c.do(p, l); !sameOutcome(got, want) {
				t.Errorf("14: %s answers %+v, then %+v", c.name, want, got)
			}
		}
	}
}

// 14: no call reads the trace number, or changes it, be the call refused or not.
func TestTraceIsLetBe(t *testing.T) {
	p := strict()
	for _, l := range loans(t) {
		for _, c := range slices.Concat(calls(), refused()) {
			traced := l
			traced.Trace = 4711
			want, got := c.do(p, l), c.do(p, traced)
			if got.Loan.Trace != 4711 {
				t.Errorf("14: %s leaves the trace at %d", c.name, got.Loan.Trace)
			}
			got.Loan.Trace = l.Trace
			if !sameOutcome(got, want) {
				t.Errorf("14: %s hangs on the trace: %+v, %+v", c.name, got, want)
			}
			if loan.Look(p, traced) != loan.Look(p, l) || !slices.Equal(loan.Timers(p, traced), loan.Timers(p, l)) {
				t.Errorf("14: Look or Timers hang on the trace")
			}
		}
	}
}

// 14: nil and no holidays say the same.
func TestNoHolidays(t *testing.T) {
	without := strict()
	empty := strict()
	empty.Holidays = []int{}
	for _, l := range loans(t) {
		for _, c := range calls() {
			if a, b := c.do(without, l), c.do(empty, l); !sameOutcome(a, b) {
				t.Errorf("14: %s with no holidays is %+v, with nil %+v", c.name, b, a)
			}
		}
	}
}
