package loan_test

import (
	"math/big"
	"math/rand"
	"slices"
	"testing"

	"arrears/api"
	"arrears/collect"
	"arrears/interest"
	"arrears/loan"
)

// anyPolicy is a policy whose turns come soon.
func anyPolicy(random *rand.Rand) api.Policy {
	p := example()
	p.Grace = random.Intn(6)
	p.NonAccrual = p.Grace + 1 + random.Intn(50)
	p.ChargeOff = 1 + random.Intn(90)
	p.LateRate, p.LateMin = int64(random.Intn(1000)), int64(random.Intn(500))
	p.LateMax = p.LateMin + int64(random.Intn(3000))
	p.CycleCap, p.LifeCap = int64(random.Intn(5000)), int64(random.Intn(12000))
	p.Promises, p.PromiseDays, p.Restructures = random.Intn(4), 1+random.Intn(20), random.Intn(4)
	p.Order = random.Intn(6)
	p.Holidays = []int{738030, 738045, 738060, 738061, 738100}
	return p
}

// anyTerms are terms of a short loan, now and then at the calendar's end.
func anyTerms(random *rand.Rand) api.Terms {
	return api.Terms{
		Kind: random.Intn(3), Principal: among[int64](random, 1, 7, 5000, 123456, 3650000, 99999999),
		Rate: among[int64](random, 0, 1, 725, 1000, 20000, 100000), Count: 1 + random.Intn(5), Start: among(random, 738000+random.Intn(60), 738000+random.Intn(60), api.MaxDay-160+random.Intn(60)), Rule: random.Intn(4),
	}
}

// among is one of some numbers.
func among[T any](random *rand.Rand, numbers ...T) T {
	return numbers[random.Intn(len(numbers))]
}

// near is an amount about another one.
func near(random *rand.Rand, amount int64) int64 {
	return amount + among[int64](random, -1, 0, 0, 1)
}

// anyStep is a step near the ends of the rules, as the model stands; now and then its numbers are wild.
func anyStep(random *rand.Rand, m *model) step {
	fees, rest := m.of(api.Fees), m.rest()
	s := step{word: among(random, "pay", "return", "refund", "waive", "promise", "restructure", "accrue")}
	if random.Intn(100) < 80 {
		s.word = "roll"
	}
	s.days, s.count, s.rate = 1+random.Intn(m.p.PromiseDays), 1+random.Intn(5), among[int64](random, 0, 500, 9000)
	switch s.word {
	case "pay":
		s.amount = among(random, near(random, m.pastDue()), near(random, m.pastDue()+fees), near(random, fees), near(random, m.c.PromiseAmount-m.c.PromiseGot), 1+random.Int63n(rest+10))
		if random.Intn(8) == 0 {
			s.amount = near(random, fees+rest)
		}
	case "refund":
		s.amount = near(random, among(random, 1, m.of(api.Unapplied)))
	case "waive":
		s.amount = near(random, among(random, 1, fees))
	case "promise":
		s.amount = near(random, among(random, 1, m.pastDue()))
	case "accrue":
		s.days = random.Intn(4)
	}
	switch random.Intn(40) {
	case 0:
		s.amount = among[int64](random, least, -1, 0, most)
	case 1:
		s.days = among(random, least, -1, 0, m.p.PromiseDays+1, 40, most)
	case 2:
		s.count, s.rate = among(random, least, 0, 121, most), among[int64](random, least, -1, 100001, most)
	}
	// More than some weeks at once would let the model count for long.
	if s.word == "accrue" && s.days > 40 && s.days < most {
		s.days = 40
	}
	return s
}

// opened is a model of a new loan, and false if there is no plan of it.
func opened(p api.Policy, terms api.Terms) (*model, bool) {
	plan, ok := interest.Plan(terms, p.Holidays)
	m := &model{p: p, id: 7, terms: terms, plan: plan, has: map[int]*big.Int{}, c: collect.Fresh(), day: terms.Start, carry: new(big.Int)}
	m.move(api.Principal, api.Funding, terms.Principal)
	return m, ok
}

// tally counts what a test has met.
type tally struct {
	statuses, notices, timers map[int]int
	errors                    map[api.Errno]int
}

func newTally() tally {
	return tally{map[int]int{}, map[int]int{}, map[int]int{}, map[api.Errno]int{}}
}

// enough holds a test to having met all statuses, notices, timers and errors.
func (c tally) enough(t *testing.T) {
	t.Helper()
	for n := 1; n <= 9; n++ {
		if c.statuses[n] < 100 || c.notices[n] < 100 || n <= 5 && c.timers[n] < 100 {
			t.Errorf("status, notice or timer %d was seldom met: %v, %v, %v", n, c.statuses, c.notices, c.timers)
		}
	}
	for _, why := range []api.Errno{
		api.OK, api.ErrArg, api.ErrRange, api.ErrAmount, api.ErrClosed, api.ErrNotOpen, api.ErrActive,
		api.ErrBudget, api.ErrTerms, api.ErrDate, api.ErrNoPay, api.ErrFunds,
	} {
		if c.errors[why] < 10 {
			t.Errorf("the error %d was seldom met: %v", why, c.errors)
		}
	}
}

// meets counts what a call answered, and the timers behind it.
func (c tally) meets(o api.Outcome, timers []api.Timer) {
	c.statuses[o.Loan.Case.Status]++
	c.errors[o.Err]++
	for _, n := range o.Notices {
		c.notices[n.Kind]++
	}
	for _, k := range timers {
		c.timers[k.Kind]++
	}
}

// holds holds one call to the model: all that it answers, and what the loan tells behind it.
func holds(t *testing.T, m *model, l api.Loan, s step) (*model, api.Outcome) {
	t.Helper()
	next, want := m.does(s)
	got := s.asked(m.p, l)
	if !sameOutcome(got, want) {
		t.Fatalf("14: under %+v %+v of\n%+v is\n%+v, want\n%+v", m.p, s, l, got, want)
	}
	if timers := loan.Timers(m.p, got.Loan); !slices.Equal(timers, next.timers()) {
		t.Fatalf("14.10: under %+v Timers of %+v = %v, want %v", m.p, got.Loan, timers, next.timers())
	}
	if view := loan.Look(m.p, got.Loan); view != next.view() {
		t.Fatalf("14.11: under %+v Look of %+v = %+v, want %+v", m.p, got.Loan, view, next.view())
	}
	return next, got
}

// 14.1 to 14.11: long lives under many policies, held against the model call by call.
func TestAgainstModel(t *testing.T) {
	random := rand.New(rand.NewSource(14))
	count := newTally()
	for range 1500 {
		p, terms := anyPolicy(random), anyTerms(random)
		m, ok := opened(p, terms)
		o := loan.Open(p, 7, terms)
		count.meets(o, nil)
		if !ok {
			if !sameOutcome(o, api.Outcome{Err: api.ErrDate}) {
				t.Fatalf("14.1: Open(%+v) = %+v, though it has no plan", terms, o)
			}
			continue
		}
		if !sameOutcome(o, api.Outcome{Loan: m.loan()}) {
			t.Fatalf("14.1: Open(%+v) = %+v, want %+v", terms, o, m.loan())
		}
		// Of a loan that is over a few more calls tell all.
		for calls, over := 0, 0; calls < 300 && over < 40; calls++ {
			m, o = holds(t, m, o.Loan, anyStep(random, m))
			count.meets(o, m.timers())
			if m.over() {
				over++
			}
		}
	}
	count.enough(t)
}
