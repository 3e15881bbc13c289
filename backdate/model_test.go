package backdate_test

import (
	"math/rand"
	"reflect"
	"slices"
	"testing"

	"arrears/api"
	"arrears/backdate"
	"arrears/engine"
)

// among is one of some values.
func among[T any](random *rand.Rand, values ...T) T {
	return values[random.Intn(len(values))]
}

// begin is a new portfolio.
func begin(t *testing.T, p api.Policy) *engine.Engine {
	t.Helper()
	e, why := engine.New(p)
	if why != api.OK {
		t.Fatalf("15.1: New(%+v) = %d", p, why)
	}
	return e
}

// step is an operation, or one day of a day operation that is taken, with the place of that one.
type step struct {
	op    api.Op
	place int
	isDay bool
}

// inserted is the place of the operation that is put in.
const inserted = -1

// model is a history taken apart and played day by day, from its beginning on.
type model struct {
	policy   api.Policy
	ops      []api.Op
	steps    []step
	was      api.State
	refusals map[int]api.Errno // by the places
}

// modelOf takes a history apart.
func modelOf(t *testing.T, p api.Policy, ops []api.Op) model {
	t.Helper()
	e := begin(t, p)
	m := model{policy: p, ops: ops}
	for place, o := range ops {
		taken := e.Apply(o).Err == api.OK
		switch {
		case o.Kind < 1 || o.Kind > 8:
		case taken && o.Kind == api.OpDay:
			for range o.Days {
				m.steps = append(m.steps, step{days(1), place, true})
			}
		default:
			m.steps = append(m.steps, step{o, place, false})
		}
	}
	m.was, m.refusals = m.play(t, m.steps)
	return m
}

// play plays steps on a new portfolio: the portfolio behind them, and at which places anything was refused.
func (m model) play(t *testing.T, steps []step) (api.State, map[int]api.Errno) {
	t.Helper()
	e := begin(t, m.policy)
	refusals := map[int]api.Errno{}
	for _, s := range steps {
		if why := e.Apply(s.op).Err; why != api.OK {
			refusals[s.place] = why
		}
	}
	return e.Save(), refusals
}

// with are the steps with the operation ahead of the single day that begins on its day, or behind all.
func (m model) with(day int, o api.Op) []step {
	at, today := 0, m.policy.FirstDay
	for at < len(m.steps) && !(m.steps[at].isDay && today == day) {
		if m.steps[at].isDay {
			today++
		}
		at++
	}
	return slices.Insert(slices.Clone(m.steps), at, step{o, inserted, false})
}

// joined lays the single days of each place together again, as far as they stand beside one another.
func (m model) joined(steps []step) []api.Op {
	var list []api.Op
	for at := 0; at < len(steps); at++ {
		s := steps[at]
		if !s.isDay {
			list = append(list, s.op)
			continue
		}
		count := 1
		for at+1 < len(steps) && steps[at+1].place == s.place {
			at++
			count++
		}
		whole := m.ops[s.place]
		if count != whole.Days {
			whole = days(count)
		}
		list = append(list, whole)
	}
	return list
}

// answers are what the three calls answer.
type answers struct {
	ops    []api.Op
	loan   api.Loan
	change api.Book
	upset  []int
	why    api.Errno
}

// answer reckons what the three calls answer.
func (m model) answer(t *testing.T, day int, o api.Op) answers {
	t.Helper()
	if o.Kind != 2 && o.Kind != 5 {
		return answers{why: api.ErrKind}
	}
	if day < m.policy.FirstDay || day > m.was.Today {
		return answers{why: api.ErrDate}
	}
	steps := m.with(day, o)
	then, refusals := m.play(t, steps)
	if why := refusals[inserted]; why != api.OK {
		return answers{why: why}
	}
	a := answers{ops: m.joined(steps), loan: loanOf(then, o.Loan)}
	for account := range a.change.Net {
		a.change.Net[account] = a.loan.Book.Net[account] - loanOf(m.was, o.Loan).Book.Net[account]
	}
	for place := range m.ops {
		if (m.refusals[place] == api.OK) != (refusals[place] == api.OK) {
			a.upset = append(a.upset, place)
		}
	}
	return a
}

// loanOf is the loan of that number.
func loanOf(s api.State, number int) api.Loan {
	for _, l := range s.Loans {
		if l.ID == number {
			return l
		}
	}
	return api.Loan{}
}

// ask asks the three calls, whose errors are one.
func ask(t *testing.T, p api.Policy, ops []api.Op, day int, o api.Op) answers {
	t.Helper()
	var a answers
	var one, two api.Errno
	a.ops, a.why = backdate.Insert(p, ops, day, o)
	a.loan, a.change, one = backdate.Correct(p, ops, day, o)
	a.upset, two = backdate.Upset(p, ops, day, o)
	if one != a.why || two != a.why {
		t.Errorf("23.2, 23.3: of %+v on day %d in %+v the errors are %d, %d, %d", o, day, ops, a.why, one, two)
	}
	return a
}

// same tells whether answers are equal.
func (a answers) same(b answers) bool {
	return slices.Equal(a.ops, b.ops) && reflect.DeepEqual(a.loan, b.loan) && a.change == b.change && slices.Equal(a.upset, b.upset) && a.why == b.why
}

// asModel holds the three calls to the model, and hands out what they answer.
func asModel(t *testing.T, m model, day int, o api.Op) answers {
	t.Helper()
	want, got := m.answer(t, day, o), ask(t, m.policy, m.ops, day, o)
	if !got.same(want) {
		t.Errorf("23.1 to 23.3: of %+v on day %d in %+v the answers are %+v, want %+v", o, day, m.ops, got, want)
	}
	return got
}

// anyPolicy is a policy whose turns come soon.
func anyPolicy(random *rand.Rand) api.Policy {
	p := example()
	p.Grace = random.Intn(6)
	p.NonAccrual = p.Grace + 1 + random.Intn(50)
	p.ChargeOff = 1 + random.Intn(150)
	p.LateRate, p.LateMin = int64(random.Intn(1000)), int64(random.Intn(500))
	p.LateMax = p.LateMin + int64(random.Intn(3000))
	p.CycleCap, p.LifeCap = int64(random.Intn(5000)), int64(random.Intn(12000))
	p.Promises, p.PromiseDays, p.Restructures = random.Intn(4), 1+random.Intn(20), random.Intn(4)
	p.Order, p.Rule = random.Intn(6), random.Intn(4)
	p.Holidays = []int{738030, 738045, 738060, 738061, 738100}
	return p
}

// anyOp is an operation, of which the portfolio may take or refuse each.
func anyOp(random *rand.Rand, e *engine.Engine) api.Op {
	loans := e.Save().Loans
	if len(loans) < 3 || random.Intn(15) == 0 {
		return open(1+random.Intn(9), among[int64](random, 1, 7, 5000, 123456, 3650000), among[int64](random, 0, 1, 725, 9000, 100000), 1+random.Intn(5), random.Intn(3))
	}
	if random.Intn(5) < 2 {
		return api.Op{Kind: api.OpDay, Days: among(random, 0, 1, 1, 2, 3, 5, 8, 1+random.Intn(20), 1+random.Intn(61)), Loan: random.Intn(3)}
	}
	o := api.Op{Kind: 2 + random.Intn(6), Loan: among(random, loans...).ID, Rate: among[int64](random, 0, 900, 100000), Count: 1 + random.Intn(5), Days: 1 + random.Intn(20)}
	n := e.Ask(api.Op{Kind: api.OpLoan, Loan: o.Loan}).Nums
	status, pastDue, fees, interest, principal, unapplied := n[0], n[3], n[4], n[5], n[6], n[7]
	o.Amount = among(random, 1, 1+random.Int63n(20000), pastDue, pastDue+fees, fees, fees+interest, unapplied, 1+unapplied/2, 1+fees/2)
	if random.Intn(12) == 0 {
		o.Amount = fees + interest + principal + among[int64](random, -1, 0, 1, 500)
	}
	if unapplied > 0 && random.Intn(2) == 0 {
		o.Kind, o.Amount = api.OpRefund, 1+random.Int63n(unapplied)
	}
	if status == api.ChargedOff && random.Intn(3) == 0 {
		o.Kind = api.OpPay
	}
	if o.Kind == api.OpPay {
		o.Count = among(random, 0, 0, 0, 1+random.Intn(20))
	}
	if random.Intn(25) == 0 {
		o.Kind = among(random, 0, -1, 9, 14, 15, 21, 22, most)
	}
	return o
}

// anyHistory is a row of operations of a portfolio, and the portfolio behind them.
func anyHistory(t *testing.T, random *rand.Rand, p api.Policy, count int) ([]api.Op, api.State) {
	t.Helper()
	e := begin(t, p)
	var list []api.Op
	for range count {
		o := anyOp(random, e)
		e.Apply(o)
		list = append(list, o)
	}
	return list, e.Save()
}

// anyLate is an operation that comes too late, and its day.
func anyLate(random *rand.Rand, s api.State) (int, api.Op) {
	o := pay(among(random, s.Loans...).ID, among(random, random.Int63n(2), random.Int63n(300), random.Int63n(5000), random.Int63n(200000), random.Int63n(4000000)))
	if random.Intn(3) == 0 {
		o.Kind, o.Amount = api.OpWaive, random.Int63n(300)
	} else if random.Intn(4) == 0 {
		o.Count = random.Intn(20) - 1
	}
	if random.Intn(25) == 0 {
		o.Kind = among(random, 0, 1, 3, 4, 6, 7, 8, 9, 15, 22)
	}
	if random.Intn(25) == 0 {
		o.Loan = random.Intn(10)
	}
	return first - 1 + random.Intn(s.Today-first+3), o
}

// 23.1 to 23.3: long lives under many policies, held against the model.
func TestAgainstModel(t *testing.T) {
	random := rand.New(rand.NewSource(23))
	errors, upsets, accounts, statuses := map[api.Errno]int{}, map[int]int{}, map[int]int{}, map[int]int{}
	for range 60 {
		p := anyPolicy(random)
		list, s := anyHistory(t, random, p, 50)
		m := modelOf(t, p, list)
		for range 20 {
			day, o := anyLate(random, s)
			got := asModel(t, m, day, o)
			errors[got.why]++
			statuses[got.loan.Case.Status]++
			for _, place := range got.upset {
				upsets[list[place].Kind]++
			}
			for account, net := range got.change.Net {
				if net != 0 {
					accounts[account]++
				}
			}
		}
	}
	for _, why := range []api.Errno{api.OK, api.ErrArg, api.ErrAmount, api.ErrKind, api.ErrDate, api.ErrNoLoan, api.ErrExists, api.ErrFunds, api.ErrClosed} {
		if errors[why] < 3 {
			t.Errorf("the answer %d came %d times", why, errors[why])
		}
	}
	for _, kind := range []int{api.OpPay, api.OpReturn, api.OpRefund, api.OpWaive, api.OpPromise, api.OpRestructure} {
		if upsets[kind] < 3 {
			t.Errorf("operations of kind %d were upset %d times", kind, upsets[kind])
		}
	}
	for account := range api.Accounts {
		if account != api.Funding && accounts[account] < 5 {
			t.Errorf("the account %d changed %d times", account, accounts[account])
		}
	}
	for status := api.Current; status <= api.Closed; status++ {
		if status != api.Grace && statuses[status] < 2 {
			t.Errorf("corrected loans of the status %d came %d times", status, statuses[status])
		}
	}
}

// 23.1 to 23.3: short histories on every one of their days, held against the model.
func TestEveryDayAgainstModel(t *testing.T) {
	random := rand.New(rand.NewSource(2323))
	for range 20 {
		p := anyPolicy(random)
		list, s := anyHistory(t, random, p, 20)
		m := modelOf(t, p, list)
		_, o := anyLate(random, s)
		for day := first - 1; day <= s.Today+1; day++ {
			asModel(t, m, day, o)
		}
	}
}
