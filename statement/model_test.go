package statement_test

import (
	"fmt"
	"math/big"
	"math/rand"
	"testing"
	"time"

	"arrears/api"
	"arrears/engine"
	"arrears/statement"
)

// among is one of some values.
func among[T any](random *rand.Rand, values ...T) T {
	return values[random.Intn(len(values))]
}

// begin is a new portfolio.
func begin(t *testing.T, p api.Policy) *engine.Engine {
	t.Helper()
	e, why := engine.New(p)
	if why != api.OK {
		t.Fatalf("15.1: New(%+v) = %d", p, why)
	}
	return e
}

// modelMoves plays the operations on one portfolio of all loans, a day after the other, and compares what is saved: the movements of each loan, by its number.
func modelMoves(t *testing.T, p api.Policy, ops []api.Op) map[int][]api.Movement {
	t.Helper()
	e := begin(t, p)
	list := map[int][]api.Movement{}
	ahead := map[int]api.Book{}
	step := func(o api.Op) {
		if r := e.Apply(o); r.Err != api.OK {
			t.Fatalf("15.4: Apply(%+v) = %d, which Check let go", o, r.Err)
		}
		s := e.Save()
		for _, l := range s.Loans {
			m := api.Movement{Day: s.Today, Kind: o.Kind}
			for account := range m.Change.Net {
				m.Change.Net[account] = l.Book.Net[account] - ahead[l.ID].Net[account]
			}
			if m.Change != (api.Book{}) {
				list[l.ID] = append(list[l.ID], m)
			}
			ahead[l.ID] = l.Book
		}
	}
	for _, o := range ops {
		if e.Check(o) != api.OK {
			continue
		}
		if o.Kind != api.OpDay {
			step(o)
			continue
		}
		for range o.Days {
			step(api.Op{Kind: api.OpDay, Days: 1})
		}
	}
	return list
}

// modelUpto adds up in numbers without an end.
func modelUpto(list []api.Movement, day int) (api.Book, bool) {
	var b api.Book
	for account := range b.Net {
		sum := new(big.Int)
		for _, m := range list {
			if m.Day <= day {
				sum.Add(sum, big.NewInt(m.Change.Net[account]))
			}
		}
		if !sum.IsInt64() {
			return api.Book{}, false
		}
		b.Net[account] = sum.Int64()
	}
	return b, true
}

// modelWithin picks by a test of what is outside.
func modelWithin(list []api.Movement, from, to int) []api.Movement {
	var within []api.Movement
	for _, m := range list {
		if outside := m.Day < from || m.Day > to; !outside {
			within = append(within, m)
		}
	}
	return within
}

// modelColumns tells four columns; false: one does not fit.
func modelColumns(b api.Book, plus string) (string, bool) {
	text := ""
	for i, net := range []int64{b.Net[1], b.Net[2], b.Net[3], b.Net[4]} {
		cents := big.NewInt(net)
		if i == 3 {
			cents.Neg(cents)
		}
		if !cents.IsInt64() {
			return "", false
		}
		sign := []string{"-", "", plus}[cents.Sign()+1]
		units, rest := new(big.Int).QuoRem(cents.Abs(cents), big.NewInt(100), new(big.Int))
		text += fmt.Sprintf(" %s%v.%02d", sign, units, rest)
	}
	return text, true
}

// modelLines tells a statement.
func modelLines(list []api.Movement, from, to int) ([]string, bool) {
	if from < 1 || to > 3652059 || from > to {
		return nil, false
	}
	date := func(day int) string {
		return time.Date(1, 1, day, 0, 0, 0, 0, time.UTC).Format(time.DateOnly)
	}
	before, fits := modelUpto(list, from-1)
	after, fit := modelUpto(list, to)
	opening, told := modelColumns(before, "")
	closing, toldToo := modelColumns(after, "")
	if !fits || !fit || !told || !toldToo {
		return nil, false
	}
	lines := []string{"FROM " + date(from) + " TO " + date(to), "OPENING" + opening}
	for _, m := range modelWithin(list, from, to) {
		change, told := modelColumns(m.Change, "+")
		if !told || m.Kind < 1 || m.Kind > 8 {
			return nil, false
		}
		word := []string{"open", "pay", "return", "refund", "waive", "promise", "restructure", "day"}[m.Kind-1]
		lines = append(lines, date(m.Day)+" "+word+change)
	}
	return append(lines, "CLOSING"+closing), true
}

// linesOf are the lines of the model, for a statement that can be told.
func linesOf(list []api.Movement, from, to int) []string {
	lines, _ := modelLines(list, from, to)
	return lines
}

// asModel holds Upto, Within and Lines to the model.
func asModel(t *testing.T, list []api.Movement, from, to int) {
	t.Helper()
	for _, day := range []int{from, to} {
		if want, fits := modelUpto(list, day); fits {
			comes(t, list, day, want)
		} else {
			comesToNone(t, list, day)
		}
	}
	holds(t, list, from, to, modelWithin(list, from, to)...)
	if want, ok := modelLines(list, from, to); ok {
		tells(t, list, from, to, want...)
	} else {
		tellsNone(t, list, from, to)
	}
}

// anyPolicy is a policy whose turns come soon.
func anyPolicy(random *rand.Rand) api.Policy {
	p := example()
	p.Grace = random.Intn(6)
	p.NonAccrual = p.Grace + 1 + random.Intn(50)
	p.ChargeOff = 1 + random.Intn(150)
	p.LateRate, p.LateMin = int64(random.Intn(1000)), int64(random.Intn(500))
	p.LateMax = p.LateMin + int64(random.Intn(3000))
	p.CycleCap, p.LifeCap = int64(random.Intn(5000)), int64(random.Intn(12000))
	p.Promises, p.PromiseDays, p.Restructures = random.Intn(4), 1+random.Intn(20), random.Intn(4)
	p.Order, p.Rule = random.Intn(6), random.Intn(4)
	p.Holidays = []int{738030, 738045, 738060, 738061, 738100}
	return p
}

// anyOp is an operation, of which the portfolio may take or refuse each.
func anyOp(random *rand.Rand, e *engine.Engine) api.Op {
	loans := e.Save().Loans
	if len(loans) < 3 || random.Intn(15) == 0 {
		return open(1+random.Intn(40), among[int64](random, 1, 7, 5000, 123456, 3650000), among[int64](random, 0, 1, 725, 9000, 100000), 1+random.Intn(5), random.Intn(3))
	}
	if random.Intn(5) < 2 {
		return days(among(random, 0, 1, 1, 2, 3, 5, 8, 1+random.Intn(20), 1+random.Intn(61)))
	}
	o := api.Op{Kind: 2 + random.Intn(6), Loan: among(random, loans...).ID, Rate: among[int64](random, 0, 900, 100000), Count: 1 + random.Intn(5), Days: 1 + random.Intn(20)}
	n := e.Ask(api.Op{Kind: api.OpLoan, Loan: o.Loan}).Nums
	status, pastDue, fees, interest, principal, unapplied := n[0], n[3], n[4], n[5], n[6], n[7]
	o.Amount = among(random, 1, 1+random.Int63n(20000), pastDue, pastDue+fees, fees, fees+interest, unapplied, 1+unapplied/2, 1+fees/2)
	if random.Intn(12) == 0 {
		o.Amount = fees + interest + principal + among[int64](random, -1, 0, 1, 500)
	}
	if unapplied > 0 && random.Intn(2) == 0 {
		o.Kind, o.Amount = api.OpRefund, 1+random.Int63n(unapplied)
	}
	if status == api.ChargedOff && random.Intn(3) == 0 {
		o.Kind = api.OpPay
	}
	if o.Kind == api.OpPay {
		o.Count = among(random, 0, 0, 0, 1+random.Intn(20))
	}
	if random.Intn(25) == 0 {
		o.Kind = among(random, 0, -1, 9, 14, 15, 21, 22, most)
	}
	return o
}

// anyHistory is a row of operations of a portfolio, and the portfolio behind them.
func anyHistory(t *testing.T, random *rand.Rand, p api.Policy, count int) ([]api.Op, api.State) {
	e := begin(t, p)
	var list []api.Op
	for range count {
		o := anyOp(random, e)
		e.Apply(o)
		list = append(list, o)
	}
	return list, e.Save()
}

// anyMoves are movements that no history told.
func anyMoves(random *rand.Rand) []api.Movement {
	var list []api.Movement
	for range random.Intn(7) {
		m := api.Movement{Day: among(random, 1, 2, 3, 4, 5, 6, 0, -1, least, api.MaxDay, api.MaxDay+1, most), Kind: among(random, 1, 2, 3, 4, 5, 6, 7, 8, 8, 8)}
		if random.Intn(20) == 0 {
			m.Kind = among(random, 0, 9, -1, least, most)
		}
		for range random.Intn(4) {
			m.Change.Net[random.Intn(api.Accounts)] = among[int64](random, 1, -1, 5, -250, random.Int63n(1e9), -random.Int63n(1e9), most/2, least/2)
		}
		if random.Intn(6) == 0 {
			m.Change.Net[random.Intn(6)] = among[int64](random, most, most-1, least, least+1)
		}
		list = append(list, m)
	}
	return list
}

// 22.1 to 22.4: long lives under many policies, held against the model.
func TestAgainstModel(t *testing.T) {
	random := rand.New(rand.NewSource(22))
	kinds, accounts := map[int]int{}, map[int]int{}
	for range 120 {
		p := anyPolicy(random)
		list, s := anyHistory(t, random, p, 60)
		all := modelMoves(t, p, list)
		for _, l := range s.Loans {
			want := all[l.ID]
			moves(t, p, list, l.ID, want...)
			for _, m := range want {
				kinds[m.Kind]++
				for account, net := range m.Change.Net {
					if net != 0 {
						accounts[account]++
					}
				}
			}
			for range 5 {
				asModel(t, want, first-2+random.Intn(s.Today-first+5), first-2+random.Intn(s.Today-first+5))
			}
		}
		moves(t, p, list, 41)
	}
	for kind := 1; kind <= 8; kind++ {
		if kind != api.OpPromise && kinds[kind] < 30 || kind == api.OpPromise && kinds[kind] > 0 {
			t.Errorf("the movements of kind %d were %d", kind, kinds[kind])
		}
	}
	for account := range api.Accounts {
		if accounts[account] < 30 {
			t.Errorf("the account %d moved %d times", account, accounts[account])
		}
	}
}

// 22.2 to 22.4: movements that no history told, held against the model.
func TestAnyMovesAgainstModel(t *testing.T) {
	random := rand.New(rand.NewSource(224))
	told, refused := 0, 0
	day := func() int {
		return among(random, 1, 1, 2, 3, 4, 5, 6, 7, 7, api.MaxDay, 0, -1, api.MaxDay+1, most, least)
	}
	for range 60000 {
		list := anyMoves(random)
		from, to := day(), day()
		if from > to && random.Intn(4) > 0 {
			from, to = to, from
		}
		asModel(t, list, from, to)
		if _, ok := statement.Lines(list, from, to); ok {
			told++
		} else {
			refused++
		}
	}
	if told < 20000 || refused < 20000 {
		t.Errorf("%d statements were told, %d refused", told, refused)
	}
}
