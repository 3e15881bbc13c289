package loan_test

import (
	"math/big"
	"math/rand"
	"testing"

	"arrears/aging"
	"arrears/api"
	"arrears/collect"
	"arrears/ledger"
	"arrears/loan"
)

// watched is a loan's life whose every call is held to what is promised of all loans. It knows what went in and out, and no rule.
type watched struct {
	t      *testing.T
	p      api.Policy
	l      api.Loan
	cash   int64
	since  map[int]int // the day on which each cycle opened
	fees   int         // notices of fees on the plan at hand
	last   api.Outcome
	before api.Loan
}

func watch(t *testing.T, p api.Policy, l api.Loan) *watched {
	return &watched{t: t, p: p, l: l, since: map[int]int{}}
}

func (w *watched) balance(l api.Loan, account int) int64 {
	w.t.Helper()
	balance, why := ledger.Balance(l.Book, account)
	if why != api.OK || balance < 0 {
		w.t.Fatalf("14.12: the account %d stands at %d: %+v", account, balance, l)
	}
	return balance
}

// plays does a step, and looks at all that is promised.
func (w *watched) plays(s step) {
	w.t.Helper()
	w.before = w.l
	w.last = s.asked(w.p, w.l)
	w.l = w.last.Loan
	if w.last.Err != api.OK {
		if !sameOutcome(w.last, api.Outcome{Loan: w.before, Err: w.last.Err}) {
			w.t.Fatalf("14: %+v is refused with %+v, of %+v", s, w.last, w.before)
		}
		return
	}
	w.moneyComes(s)
	w.booksHold()
	w.feesHold(s)
	w.overStays()
	w.cyclesEnd(s)
	if s.word == "roll" && w.before.Case.Suspended && w.l.Case.Suspended && w.l.Book.Net[api.Income] != w.before.Book.Net[api.Income] {
		w.t.Fatalf("14.12: income moves in suspense: %+v", w.l)
	}
}

// moneyComes counts the cash, and holds a payment's parts to its amount and to what was owed.
func (w *watched) moneyComes(s step) {
	w.t.Helper()
	parts := w.last.Parts
	total := parts.Fees + parts.Interest + parts.Principal + parts.Unapplied + parts.Recovery
	switch s.word {
	case "pay":
		w.cash += s.amount
		if total != s.amount || parts.Fees > w.balance(w.before, api.Fees) || parts.Interest > w.balance(w.before, api.Interest) ||
			parts.Principal > w.balance(w.before, api.Principal) {
			w.t.Fatalf("14.12: a payment of %d is taken for %+v of %+v", s.amount, parts, w.before)
		}
	case "return":
		w.cash -= total
	case "refund":
		w.cash -= s.amount
	default:
		if parts != none() {
			w.t.Fatalf("14: %+v answers parts: %+v", s, parts)
		}
	}
	if w.balance(w.l, api.Cash) != w.cash {
		w.t.Fatalf("14.12: cash is %d, want %d", w.balance(w.l, api.Cash), w.cash)
	}
}

// booksHold holds the book to its sides.
func (w *watched) booksHold() {
	w.t.Helper()
	// Both sides may be beyond an int64, where ledger.Trial tells nothing.
	total := new(big.Int)
	for account, net := range w.l.Book.Net {
		total.Add(total, big.NewInt(net))
		w.balance(w.l, account)
	}
	if total.Sign() != 0 {
		w.t.Fatalf("14.12: debits and credits part by %v: %+v", total, w.l)
	}
	if w.balance(w.l, api.Recovery) > w.l.ChargedOff {
		w.t.Fatalf("14.12: more is recovered than was given up: %+v", w.l)
	}
	if !collect.Open(w.l.Case) && w.balance(w.l, api.Suspense) != 0 {
		w.t.Fatalf("14.12: suspense without a cycle: %+v", w.l)
	}
}

// feesHold holds the fees to their caps, and the marks to staying.
func (w *watched) feesHold(s step) {
	w.t.Helper()
	c := w.l.Case
	if c.CycleFees > w.p.CycleCap || c.LifeFees > w.p.LifeCap || c.LifeFees != w.balance(w.l, api.FeeIncome) {
		w.t.Fatalf("14.12: fees %+v, income of them %d", c, w.balance(w.l, api.FeeIncome))
	}
	if s.word == "restructure" {
		w.fees = 0
		return
	}
	for _, n := range w.last.Notices {
		if n.Kind == api.NoticeFee {
			w.fees++
		}
	}
	marked := 0
	for i, row := range w.l.Plan {
		if w.before.Plan[i].Marked && !row.Marked {
			w.t.Fatalf("14.12: row %d is marked no more", i)
		}
		if row.Marked {
			marked++
		}
	}
	if w.fees > marked {
		w.t.Fatalf("14.12: %d fees for %d rows that were missed", w.fees, marked)
	}
}

// overStays holds a loan that is over to staying so, and restructurings to their budget.
func (w *watched) overStays() {
	w.t.Helper()
	was, is := w.before.Case, w.l.Case
	if (was.Status == api.Closed || was.Status == api.ChargedOff) && (is != was || len(w.last.Notices) != 0 || w.l.HasLast) {
		w.t.Fatalf("14.12: %+v is left for %+v", was, is)
	}
	if is.Restructures > w.p.Restructures {
		w.t.Fatalf("14.12: restructured too often: %+v", is)
	}
}

// cyclesEnd holds a cycle to the day by which it is resolved, where every day is rolled.
func (w *watched) cyclesEnd(s step) {
	w.t.Helper()
	c := w.l.Case
	if s.word != "roll" || !collect.Open(c) {
		return
	}
	if _, there := w.since[c.Cycles]; !there {
		w.since[c.Cycles] = w.l.Day
	}
	if bound := w.p.ChargeOff + w.p.Promises*w.p.PromiseDays; w.l.Day >= w.since[c.Cycles]+bound {
		w.t.Fatalf("14.12: a cycle that opened on %d is still open on %d, beyond %d days: %+v", w.since[c.Cycles], w.l.Day, bound, c)
	}
}

// 14.12: whatever is done with a loan, day by day, all that is promised of loans stays true.
func TestWatchedLives(t *testing.T) {
	random := rand.New(rand.NewSource(1412))
	off, cured := 0, 0
	for range 600 {
		p, terms := anyPolicy(random), anyTerms(random)
		m, ok := opened(p, terms)
		if !ok {
			continue
		}
		w := watch(t, p, loan.Open(p, 7, terms).Loan)
		for range 250 {
			s := anyStep(random, m)
			if s.word == "accrue" {
				s = step{word: "roll"}
			}
			m, _ = m.does(s)
			w.plays(s)
		}
		cured += w.l.Case.Cures
		if w.l.Case.Status == api.ChargedOff {
			off++
		}
	}
	if off < 100 || cured < 200 {
		t.Errorf("only %d were charged off, and %d cycles cured", off, cured)
	}
}

// 14.12: a borrower who promises whenever it is allowed, and pays nothing, comes just to the bound.
func TestResolvedAtTheBound(t *testing.T) {
	for promises := range 4 {
		p := with(func(p *api.Policy) { p.Promises, p.PromiseDays, p.ChargeOff = promises, 9, 25 })
		s := late(t, p)
		for s.l.Day < 738042+25+9*promises {
			if !collect.Open(s.l.Case) {
				t.Fatalf("14.12: with %d promises %+v on %d, ahead of the bound", promises, s.l.Case, s.l.Day)
			}
			if o := loan.Promise(p, s.l, 5, 9); o.Err == api.OK {
				s.l = o.Loan
			}
			s.rolls(1)
		}
		if s.l.Case.Status != api.ChargedOff {
			t.Errorf("14.12: with %d promises %+v at the bound", promises, s.l.Case)
		}
	}
}

// due tells whether one of a loan's timers is due at a day.
func due(p api.Policy, l api.Loan, day int) bool {
	timers := loan.Timers(p, l)
	return len(timers) > 0 && timers[0].Day <= day
}

// 14.12: where no timer is due tomorrow, a roll is what a day's interest alone is; and a notice comes on no other day.
func TestDrivenByTimers(t *testing.T) {
	random := rand.New(rand.NewSource(141210))
	quiet, loud := 0, 0
	for range 600 {
		p, terms := anyPolicy(random), anyTerms(random)
		m, ok := opened(p, terms)
		if !ok {
			continue
		}
		l := loan.Open(p, 7, terms).Loan
		for range 250 {
			rolled := loan.Roll(p, l)
			if !due(p, l, l.Day+1) {
				quiet++
				if accrued := loan.Accrue(p, l, 1); !sameOutcome(rolled, accrued) {
					t.Fatalf("14.12: under %+v no timer of %+v is due, but Roll is %+v, Accrue %+v", p, l, rolled, accrued)
				}
			} else if len(rolled.Notices) > 0 {
				loud++
			}
			s := anyStep(random, m)
			m, _ = m.does(s)
			l = s.asked(p, l).Loan
		}
	}
	if quiet < 10000 || loud < 1000 {
		t.Errorf("only %d quiet days, and %d with notices", quiet, loud)
	}
}

// 14.12: led by its timers alone, a loan comes to the same as day by day.
func TestLedByTimers(t *testing.T) {
	random := rand.New(rand.NewSource(141211))
	for range 300 {
		p, terms := anyPolicy(random), anyTerms(random)
		o := loan.Open(p, 7, terms)
		if o.Err != api.OK {
			continue
		}
		l := o.Loan
		if random.Intn(2) == 0 {
			l = loan.Pay(p, l, 1+random.Int63n(terms.Principal)).Loan
		}
		end := min(l.Day+600, api.MaxDay)
		daily, led := l, l
		var told, led2 []api.Notice
		for daily.Day < end {
			o := loan.Roll(p, daily)
			daily, told = o.Loan, append(told, o.Notices...)
		}
		for led.Day < end {
			next := end
			if timers := loan.Timers(p, led); len(timers) > 0 {
				next = min(end, timers[0].Day)
			}
			led = loan.Accrue(p, led, max(0, next-1-led.Day)).Loan
			o := loan.Roll(p, led)
			led, led2 = o.Loan, append(led2, o.Notices...)
		}
		if !sameOutcome(api.Outcome{Loan: daily, Notices: told}, api.Outcome{Loan: led, Notices: led2}) {
			t.Fatalf("14.12: under %+v day by day\n%+v, %+v, led by timers\n%+v, %+v", p, daily, told, led, led2)
		}
	}
}

// 14.12: days that accrue in two spans accrue as in one.
func TestAccrueAddsUp(t *testing.T) {
	random := rand.New(rand.NewSource(1499))
	for range 300 {
		p, terms := anyPolicy(random), anyTerms(random)
		m, ok := opened(p, terms)
		if !ok {
			continue
		}
		l := loan.Open(p, 7, terms).Loan
		for range 60 {
			s := anyStep(random, m)
			m, _ = m.does(s)
			l = s.asked(p, l).Loan
		}
		a := random.Intn(50)
		b := random.Intn(max(1, min(100000, api.MaxDay-l.Day-a)))
		twice := loan.Accrue(p, loan.Accrue(p, l, a).Loan, b)
		if once := loan.Accrue(p, l, a+b); !sameOutcome(once, twice) {
			t.Fatalf("14.12: Accrue by %d and %d of %+v is %+v, at once %+v", a, b, l, twice, once)
		}
	}
}

// 14.12: a payment that is returned at once leaves the book and Applied as they were, if it neither cured nor closed the loan.
func TestTakenBack(t *testing.T) {
	random := rand.New(rand.NewSource(1498))
	back := 0
	for range 600 {
		p, terms := anyPolicy(random), anyTerms(random)
		m, ok := opened(p, terms)
		if !ok {
			continue
		}
		l := loan.Open(p, 7, terms).Loan
		for range 150 {
			s := anyStep(random, m)
			m, _ = m.does(s)
			l = s.asked(p, l).Loan
			paid := loan.Pay(p, l, 1+random.Int63n(m.rest()+m.of(api.Fees)+1))
			if paid.Err != api.OK || paid.Loan.Case.Cures != l.Case.Cures || !paid.Loan.HasLast {
				continue
			}
			back++
			returned := loan.Return(p, paid.Loan)
			if returned.Err != api.OK || returned.Parts != paid.Parts || returned.Loan.Applied != l.Applied || returned.Loan.Book != l.Book {
				t.Fatalf("14.12: %+v, paid and returned, is %+v", l, returned)
			}
			if aging.Days(returned.Loan.Plan, api.Position{Applied: l.Applied, Rest: m.rest()}, l.Day) != loan.Look(p, l).Days {
				t.Fatalf("14.12: %+v is late otherwise behind the return: %+v", l, returned.Loan)
			}
		}
	}
	if back < 10000 {
		t.Errorf("only %d payments were taken back", back)
	}
}
