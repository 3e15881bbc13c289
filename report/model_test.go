package report_test

import (
	"fmt"
	"math/big"
	"math/rand"
	"slices"
	"testing"
	"time"

	"arrears/api"
	"arrears/engine"
	"arrears/report"
)

// statuses are the words of the statuses from 1 on.
var statuses = []string{"", "current", "grace", "delinquent", "promised", "non-accrual", "cured", "restructured", "charged-off", "closed"}

// looks are the 21 numbers of each loan of a portfolio, as its engine answers them to queries.
func looks(e *engine.Engine) map[int][]int64 {
	list := map[int][]int64{}
	for _, l := range e.Save().Loans {
		list[l.ID] = e.Ask(api.Op{Kind: api.OpLoan, Loan: l.ID}).Nums
	}
	return list
}

// modelTape tells the tape from the engine's answers.
func modelTape(e *engine.Engine) []string {
	amount := func(cents int64) string { return fmt.Sprintf("%d.%02d", cents/100, cents%100) }
	looks := looks(e)
	var lines []string
	for _, l := range e.Save().Loans {
		n := looks[l.ID]
		due := "-"
		if day := n[17]; day != 0 {
			due = time.Date(1, 1, int(day), 0, 0, 0, 0, time.UTC).Format(time.DateOnly)
		}
		lines = append(lines, fmt.Sprint(l.ID, " ", statuses[n[0]], " ", n[1], " ", n[2], " ", amount(n[3]), " ", amount(n[4]), " ", amount(n[5]), " ", amount(n[6]), " ", amount(n[7]), " ", due))
	}
	return lines
}

// modelClass is the class of a loan with these numbers.
func modelClass(look []int64) int {
	switch look[0] {
	case 9:
		return 6
	case 8:
		return 5
	}
	return int(look[2])
}

// modelRoll holds each loan of the one against each of the other.
func modelRoll(before, after *engine.Engine) [7][7]int {
	var counts [7][7]int
	for number, then := range looks(before) {
		for other, now := range looks(after) {
			if number == other {
				counts[modelClass(then)][modelClass(now)]++
			}
		}
	}
	return counts
}

// modelExposures adds up, class by class, what the books tell.
func modelExposures(e *engine.Engine) [5]*big.Int {
	var sums [5]*big.Int
	for class := range sums {
		sums[class] = new(big.Int)
	}
	looks := looks(e)
	for _, l := range e.Save().Loans {
		class := modelClass(looks[l.ID])
		exposed := new(big.Int)
		// Suspense is a credit account: what stands there is below 0 in the book.
		for _, account := range []int{1, 2, 3, 5} {
			exposed.Add(exposed, big.NewInt(l.Book.Net[account]))
		}
		if class < 5 && exposed.Sign() > 0 {
			sums[class].Add(sums[class], exposed)
		}
	}
	return sums
}

// modelAllowance takes so many parts in ten thousand of what the books tell, a half to the even cent.
func modelAllowance(e *engine.Engine, rates [5]int64) ([5]int64, bool) {
	var amounts [5]int64
	for class, sum := range modelExposures(e) {
		if rates[class] < 0 || rates[class] > 10000 || !sum.IsInt64() {
			return [5]int64{}, false
		}
		quotient, rest := new(big.Int).QuoRem(new(big.Int).Mul(sum, big.NewInt(rates[class])), big.NewInt(10000), new(big.Int))
		amounts[class] = quotient.Int64()
		if half := rest.Int64(); half > 5000 || half == 5000 && amounts[class]%2 == 1 {
			amounts[class]++
		}
	}
	return amounts, true
}

// anyPolicy is a policy whose turns come soon.
func anyPolicy(random *rand.Rand) api.Policy {
	p := example()
	p.Grace = random.Intn(6)
	p.NonAccrual = p.Grace + 1 + random.Intn(50)
	p.ChargeOff = 1 + random.Intn(150)
	p.LateRate, p.LateMin = int64(random.Intn(1000)), int64(random.Intn(500))
	p.LateMax = p.LateMin + int64(random.Intn(3000))
	p.CycleCap, p.LifeCap = int64(random.Intn(5000)), int64(random.Intn(12000))
	p.Promises, p.PromiseDays, p.Restructures = random.Intn(4), 1+random.Intn(20), random.Intn(4)
	p.Order, p.Rule = random.Intn(6), random.Intn(4)
	p.Holidays = []int{738030, 738045, 738060, 738061, 738100}
	return p
}

// anyOp is an operation, of which the portfolio may take or refuse each.
func anyOp(random *rand.Rand, e *engine.Engine) api.Op {
	loans := e.Save().Loans
	if len(loans) < 3 || random.Intn(12) == 0 {
		return open(1+random.Intn(40), among[int64](random, 1, 7, 5000, 123456, 3650000), among[int64](random, 0, 1, 725, 9000, 100000, 100000), 1+random.Intn(5), random.Intn(3))
	}
	if random.Intn(5) < 2 {
		return days(among(random, 1, 1, 2, 3, 5, 8, 1+random.Intn(20), 1+random.Intn(60)))
	}
	o := api.Op{Kind: 2 + random.Intn(6), Loan: among(random, loans...).ID, Rate: among[int64](random, 0, 900, 100000), Count: 1 + random.Intn(5), Days: 1 + random.Intn(20)}
	n := e.Ask(api.Op{Kind: api.OpLoan, Loan: o.Loan}).Nums
	pastDue, fees, interest, principal, unapplied := n[3], n[4], n[5], n[6], n[7]
	o.Amount = among(random, 1, 1+random.Int63n(20000), pastDue, pastDue+fees, fees, fees+interest, fees+interest, unapplied, 1+unapplied/2, 1+fees/2)
	if random.Intn(12) == 0 {
		o.Amount = fees + interest + principal + among[int64](random, -1, 0, 1, 500)
	}
	if o.Kind == api.OpPay {
		o.Count = 0
	}
	return o
}

// live leads a portfolio on by some operations.
func live(random *rand.Rand, e *engine.Engine, count int) {
	for range count {
		e.Apply(anyOp(random, e))
	}
}

// begin is a new portfolio.
func begin(t *testing.T, p api.Policy) *engine.Engine {
	t.Helper()
	e, why := engine.New(p)
	if why != api.OK {
		t.Fatalf("15.1: New(%+v) = %d", p, why)
	}
	return e
}

// tally counts what a test has met.
type tally struct {
	classes, statuses, kinds map[int]int
	turns                    [7][7]int
	below                    int
}

// meets counts a portfolio, and how it came there from another.
func (c *tally) meets(s api.State, turns [7][7]int, looks map[int][]int64) {
	for _, look := range looks {
		c.classes[modelClass(look)]++
		c.statuses[int(look[0])]++
		// More in suspense than fees, interest and principal together.
		if look[8] > look[4]+look[5]+look[6] {
			c.below++
		}
	}
	for _, n := range s.Notices {
		c.kinds[n.Kind]++
	}
	for i, row := range turns {
		for j, count := range row {
			c.turns[i][j] += count
		}
	}
}

// enough holds a test to having met all classes, statuses and notices.
func (c *tally) enough(t *testing.T) {
	t.Helper()
	for n := 1; n <= 9; n++ {
		if c.classes[n%7] < 50 || c.statuses[n] < 50 || c.kinds[n] < 50 {
			t.Errorf("a class, a status or a kind of notice was seldom met: %v, %v, %v", c.classes, c.statuses, c.kinds)
		}
	}
	for from := range 5 {
		for _, to := range []int{0, from, 5, 6} {
			if c.turns[from][to] == 0 {
				t.Errorf("no loan came from class %d to %d: %v", from, to, c.turns)
			}
		}
	}
	if c.below < 20 {
		t.Errorf("few loans with more in suspense than is owed: %d", c.below)
	}
}

// 21.1 to 21.7: long lives under many policies, held against the model.
func TestAgainstModel(t *testing.T) {
	random := rand.New(rand.NewSource(21))
	count := &tally{classes: map[int]int{}, statuses: map[int]int{}, kinds: map[int]int{}}
	for range 300 {
		p := anyPolicy(random)
		e := begin(t, p)
		for range 8 {
			before := resumed(t, p, e.Save())
			live(random, e, 12)
			s := e.Save()
			tapes(t, p, s, modelTape(e)...)
			looks := looks(e)
			for _, l := range s.Loans {
				isOf(t, p, l, modelClass(looks[l.ID]))
			}
			turns := modelRoll(before, e)
			rolls(t, p, before.Save(), s, turns)
			rolls(t, p, s, before.Save(), modelRoll(e, before))
			for range 4 {
				var rates [5]int64
				for class := range rates {
					rates[class] = among[int64](random, 0, 10000, random.Int63n(10001), random.Int63n(10001), 10001-random.Int63n(2))
				}
				got, ok := report.Allowance(p, s, rates)
				if want, wantOK := modelAllowance(e, rates); got != want || ok != wantOK {
					t.Fatalf("21.6: Allowance by %v = %v, %v, want %v, %v", rates, got, ok, want, wantOK)
				}
			}
			debit, credit, fits := modelTrial(s)
			tries(t, s, debit, credit, fits)
			for _, n := range s.Notices {
				letter, ok := report.Letter(n)
				n.Acked = false
				if got, read := modelRead(letter); !ok || !read || got != n {
					t.Fatalf("21.2: Letter(%+v) = %q, %v", n, letter, ok)
				}
				reads(t, letter, n)
			}
			count.meets(s, turns, looks)
		}
	}
	count.enough(t)
}

// 21: what a policy that may not be makes of any portfolio.
func TestRefusedPoliciesAgainstModel(t *testing.T) {
	random := rand.New(rand.NewSource(211))
	for range 60 {
		p := anyPolicy(random)
		e := begin(t, p)
		live(random, e, 40)
		before := e.Save()
		live(random, e, 40)
		after := e.Save()
		ill := among(random, refused()...)
		var want [7][7]int
		over := map[int]int{api.ChargedOff: 5, api.Closed: 6}
		for _, l := range before.Loans {
			at := slices.IndexFunc(after.Loans, func(m api.Loan) bool { return m.ID == l.ID })
			want[over[l.Case.Status]][over[after.Loans[at].Case.Status]]++
		}
		tapes(t, ill, after)
		rolls(t, ill, before, after, want)
		sets(t, ill, after, all(random.Int63n(10001)), all(0))
		setsNone(t, ill, after, all(-1))
		debit, credit, fits := modelTrial(after)
		tries(t, after, debit, credit, fits)
	}
}
