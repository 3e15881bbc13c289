package servicer_test

import (
	"math/rand"
	"slices"
	"strings"
	"testing"

	"arrears/api"
	"arrears/wire"
)

// lives plays drawn operations, and lets each be looked at: what was asked, what was answered, the portfolio ahead of it and behind it.
func lives(t *testing.T, seed int64, runs, ops int, draw func(random *rand.Rand) api.Op, look func(s *story, o api.Op, r api.Reply, before, behind api.State)) {
	t.Helper()
	random := rand.New(rand.NewSource(seed))
	for range runs {
		s := begin(t, anyPolicy(random))
		before := s.s.State()
		for range ops {
			o := draw(random)
			r := s.s.Do(o)
			behind := s.s.State()
			look(s, o, r, before, behind)
			before = behind
		}
	}
}

// late draws operations under which loans fall behind: few payments, and days.
func late(random *rand.Rand) api.Op {
	switch random.Intn(4) {
	case 0:
		return anyOp(random)
	case 1:
		return change(random)
	}
	return api.Op{Kind: api.OpDay, Days: among(random, 1, 1, 1, 2, 7)}
}

// open tells whether a cycle is open.
func open(l api.Loan) bool {
	return l.Case.Status == api.Delinquent || l.Case.Status == api.Promised || l.Case.Status == api.NonAccrual
}

// of are a loan's notices of a kind.
func of(s api.State, number, kind int) []api.Notice {
	return slices.DeleteFunc(slices.Clone(s.Notices), func(n api.Notice) bool { return n.Loan != number || n.Kind != kind })
}

// find is the loan of a number; one of zeros, if there is none.
func find(s api.State, number int) api.Loan {
	for _, l := range s.Loans {
		if l.ID == number {
			return l
		}
	}
	return api.Loan{}
}

// W4: a cycle is over within its bound from the day that its notice tells; no loan is restructured too often; what is charged off stays so.
func TestResolvedInTime(t *testing.T) {
	t.Parallel()
	opened, ended := 0, map[int]int{}
	lives(t, 1940, 250, 200, late, func(s *story, o api.Op, r api.Reply, before, behind api.State) {
		bound := s.p.ChargeOff + s.p.Promises*s.p.PromiseDays
		for _, l := range behind.Loans {
			old := find(before, l.ID)
			if open(l) {
				told := of(behind, l.ID, api.NoticeDelinquent)
				since := told[len(told)-1].Day
				if behind.Today >= since+bound {
					t.Fatalf("W4: a cycle that opened on %d is open on %d, beyond %d days: %+v", since, behind.Today, bound, l)
				}
				opened++
			} else if open(old) {
				ended[l.Case.Status]++
			}
			if old.Case.Status == api.ChargedOff && l.Case.Status != api.ChargedOff {
				t.Fatalf("W4: a loan that was charged off is %+v", l)
			}
			if n := len(of(behind, l.ID, api.NoticeRestructured)); n > s.p.Restructures || n != l.Case.Restructures {
				t.Fatalf("W4: a loan was restructured %d times: %+v", n, l)
			}
		}
	})
	if opened < 5000 || ended[api.ChargedOff] < 100 || ended[api.Cured] < 20 || ended[api.Restructured] < 20 || ended[api.Closed] < 5 {
		t.Errorf("few cycles: %d, %v", opened, ended)
	}
}

// W4: the bound is reached, by promises to the last day of it.
func TestResolvedAtTheBound(t *testing.T) {
	p := with(func(p *api.Policy) { p.Promises, p.PromiseDays = 3, 10 })
	s := begin(t, p)
	s.does("open 7 1200.00 0 12 equal", "day 37")
	for range 3 {
		s.does("promise 7 1.00 10", "day 11")
	}
	s.does("day 56")
	if l := s.s.State().Loans[0]; !open(l) {
		t.Errorf("W4: a day ahead of the bound the loan is %+v", l)
	}
	s.does("day 1")
	if l := s.s.State().Loans[0]; l.Case.Status != api.ChargedOff || l.Day != first+37+60+3*10 {
		t.Errorf("W4: on the last day of the bound the loan is %+v", l)
	}
}

// told holds what the receiver has to the owed notices, each at most once.
func (s *story) told() {
	s.t.Helper()
	notices := s.s.State().Notices
	seen := map[int]int{}
	for _, a := range s.s.Accepted() {
		if a.ID < 1 || a.ID > len(notices) || string(a.Body) != string(wire.EncodeNotice(notices[a.ID-1])) {
			s.t.Fatalf("W5: the receiver has %+v, which is not owed", a)
		}
		if seen[a.ID]++; seen[a.ID] > 1 {
			s.t.Fatalf("W5: the receiver has accepted %d twice", a.ID)
		}
	}
	for _, n := range notices {
		if n.Acked && seen[n.ID] == 0 {
			s.t.Fatalf("W5: %+v is acknowledged, and the receiver does not have it", n)
		}
	}
}

// throughWithin lets ticks go by in lines of drawn lengths, and asks that all that is owed is through behind them.
func (s *story) throughWithin(random *rand.Rand, ticks int) int {
	s.t.Helper()
	for left := ticks; left > 0; {
		step := 1 + random.Intn(left)
		if r := s.s.Do(api.Op{Kind: api.OpTick, Days: step}); r.Err != api.OK {
			s.t.Fatalf("W5: tick %d = %v", step, r)
		}
		left -= step
	}
	notices := s.s.State().Notices
	for _, n := range notices {
		if !n.Acked {
			s.t.Fatalf("W5: within %d ticks %+v is not acknowledged", ticks, n)
		}
	}
	if len(s.s.Accepted()) != len(notices) || len(s.s.Pending()) != 0 {
		s.t.Fatalf("W5: of %d notices %d are accepted, %d sent still", len(notices), len(s.s.Accepted()), len(s.s.Pending()))
	}
	s.told()
	return len(notices)
}

// W5: told once, whatever is lost, doubled and cut off; and all is through within RetryCap + 2 ticks of a calm network, and within RetryCap + 18 of one that loses nothing.
func TestToldOnce(t *testing.T) {
	t.Parallel()
	random := rand.New(rand.NewSource(1950))
	through := 0
	for range 400 {
		s := begin(t, anyPolicy(random))
		for range 2 {
			for range 40 {
				s.s.Do(anyOp(random))
				s.told()
			}
			s.does("calm", "compact")
			if random.Intn(2) == 0 {
				through += s.throughWithin(random, s.p.RetryCap+2)
				continue
			}
			fates := among(random, "9", "123456789d", "d")
			for range 64 {
				s.does("fate " + strings.Repeat(letters(random, fates)[:1], 30) + letters(random, fates))
			}
			through += s.throughWithin(random, s.p.RetryCap+18)
		}
	}
	if through < 3000 {
		t.Errorf("few notices: %d", through)
	}
}

// W5: the ticks are needed to the last: behind RetryCap + 1 of them a notice may still be on its way.
func TestToldAtTheBound(t *testing.T) {
	s := begin(t, example())
	s.does("open 7 1.00 0 1 equal", "pay 7 1.00", "fate "+strings.Repeat("x", 30), "tick 16", "calm", "compact")
	// It was sent at the ticks 1, 2, 4, 8 and 16.
	s.says("tick 9", "ok 1 0 25")
	s.says("notices", "ok 1 0 1")
	s.says("tick 1", "ok 0 1 26")
}

// payments keeps account of what came in and went out of each loan.
type payments map[int]int64

// moved takes down what an operation moved, if it was done.
func (p payments) moved(o api.Op, before, behind api.State) {
	if sameState(unmarked(before), unmarked(behind)) {
		return
	}
	switch o.Kind {
	case api.OpPay:
		p[o.Loan] += o.Amount
	case api.OpReturn:
		last := find(before, o.Loan).Last
		p[o.Loan] -= last.Fees + last.Interest + last.Principal + last.Unapplied + last.Recovery
	case api.OpRefund:
		p[o.Loan] -= o.Amount
	}
}

// booksHold holds a loan's book and fees to W6.
func booksHold(t *testing.T, p api.Policy, s api.State, l api.Loan, cash int64) {
	t.Helper()
	total := int64(0)
	for account, net := range l.Book.Net {
		total += net
		credit := slices.Contains([]int{api.Unapplied, api.Suspense, api.Funding, api.Income, api.FeeIncome, api.Recovery}, account)
		if net < 0 != credit && net != 0 {
			t.Fatalf("W6: the account %d is on its wrong side: %+v", account, l)
		}
	}
	if total != 0 || l.Book.Net[api.Cash] != cash {
		t.Fatalf("W6: the book does not hold, with %d in cash: %+v", cash, l)
	}
	fees := int64(0)
	for _, n := range of(s, l.ID, api.NoticeFee) {
		fees += n.Amount
	}
	if l.Case.CycleFees > p.CycleCap || l.Case.LifeFees > p.LifeCap || fees != l.Case.LifeFees || fees != -l.Book.Net[api.FeeIncome] {
		t.Fatalf("W6: the late fees are %d: %+v", fees, l)
	}
	if -l.Book.Net[api.Recovery] > l.ChargedOff {
		t.Fatalf("W6: more is recovered than was charged off: %+v", l)
	}
}

// W6: the books hold at any time.
func TestTheBooksHold(t *testing.T) {
	t.Parallel()
	brought := payments{}
	var current *story
	fees := map[int]int{} // of each loan, those since its plan was made
	met := map[string]int{}
	lives(t, 1960, 200, 150, late, func(s *story, o api.Op, r api.Reply, before, behind api.State) {
		if s != current {
			brought, current, fees = payments{}, s, map[int]int{}
		}
		brought.moved(o, before, behind)
		if o.Kind == api.OpPay && r.Err == api.OK {
			if got := r.Nums[0] + r.Nums[1] + r.Nums[2] + r.Nums[3] + r.Nums[4]; got != o.Amount {
				t.Fatalf("W6: the parts of %+v add up to %d", o, got)
			}
		}
		for _, l := range behind.Loans {
			booksHold(t, s.p, behind, l, brought[l.ID])
			old := find(before, l.ID)
			if old.Case.Restructures != l.Case.Restructures {
				fees[l.ID] = 0
			}
			fees[l.ID] += len(of(behind, l.ID, api.NoticeFee)) - len(of(before, l.ID, api.NoticeFee))
			marked := len(slices.DeleteFunc(slices.Clone(l.Plan), func(row api.Instalment) bool { return !row.Marked }))
			if fees[l.ID] > marked {
				t.Fatalf("W6: %d fees for %d missed rows: %+v", fees[l.ID], marked, l)
			}
			if old.Case.Suspended && l.Case.Suspended && old.Case.Cycles == l.Case.Cycles {
				met["suspended"]++
				if old.Book.Net[api.Income] != l.Book.Net[api.Income] {
					t.Fatalf("W6: in non-accrual the income goes from %d to %d", old.Book.Net[api.Income], l.Book.Net[api.Income])
				}
				if o.Kind == api.OpDay && l.Book.Net[api.Interest]-old.Book.Net[api.Interest] != old.Book.Net[api.Suspense]-l.Book.Net[api.Suspense] {
					t.Fatalf("W6: what accrues goes not to suspense alone: %+v, then %+v", old, l)
				}
			}
			if l.Book.Net[api.Recovery] != 0 {
				met["recovered"]++
			}
			if fees[l.ID] > 1 {
				met["fees"]++
			}
		}
	})
	if met["suspended"] < 1000 || met["recovered"] < 100 || met["fees"] < 500 {
		t.Errorf("little happened: %v", met)
	}
}

// W7: a line that is refused changes nothing: what can be seen, and what the network will do (the one that hears no refused line goes on alike).
func TestRefusedChangesNothing(t *testing.T) {
	t.Parallel()
	random := rand.New(rand.NewSource(1970))
	refused := map[api.Errno]int{}
	for range 200 {
		p := anyPolicy(random)
		s, other := begin(t, p), begin(t, p)
		for range 100 {
			o := anyOp(random)
			before := s.whole()
			r := s.s.Do(o)
			if r.Err != api.OK && r.Err != api.ErrCrashed {
				refused[r.Err]++
				if !sameWhole(s.whole(), before) {
					t.Fatalf("W7: %+v is refused with %d, and makes of\n%+v\n%+v", o, r.Err, before, s.whole())
				}
				continue
			}
			if want := other.s.Do(o); !sameReply(r, want) || !sameWhole(s.whole(), other.whole()) {
				t.Fatalf("W7: behind refused lines %+v is answered %v, without them %v", o, r, want)
			}
		}
	}
	for _, why := range []api.Errno{api.ErrArg, api.ErrNoLoan, api.ErrExists, api.ErrAmount, api.ErrFate, api.ErrKind, api.ErrNoPay, api.ErrFunds, api.ErrClosed, api.ErrNotOpen} {
		if refused[why] < 20 {
			t.Errorf("few refusals with %d: %v", why, refused)
		}
	}
}

// W8: a day line and another one behind it do what one of all their days does.
func TestDaysAddUp(t *testing.T) {
	t.Parallel()
	random := rand.New(rand.NewSource(1980))
	notices := 0
	for range 300 {
		s := begin(t, anyPolicy(random))
		for range 50 {
			s.s.Do(anyOp(random))
		}
		once, twice := s.again(), s.again()
		a := 1 + random.Intn(59)
		b := 1 + random.Intn(60-a)
		x := twice.s.Do(api.Op{Kind: api.OpDay, Days: a})
		y := twice.s.Do(api.Op{Kind: api.OpDay, Days: b})
		z := once.s.Do(api.Op{Kind: api.OpDay, Days: a + b})
		if x.Err != api.OK || y.Err != api.OK || z.Err != api.OK || y.Nums[0] != z.Nums[0] || x.Nums[1]+y.Nums[1] != z.Nums[1] {
			t.Fatalf("W8: day %d and day %d = %v %v, together %v", a, b, x, y, z)
		}
		notices += int(z.Nums[1])
		if !sameState(once.s.State(), twice.s.State()) || !samePending(once.s.Pending(), twice.s.Pending()) {
			t.Fatalf("W8: day %d and day %d leave\n%+v, together\n%+v", a, b, twice.s.State(), once.s.State())
		}
		for range 5 {
			o := api.Op{Kind: api.OpTick, Days: 1 + random.Intn(3)}
			if x, y := once.s.Do(o), twice.s.Do(o); !sameReply(x, y) {
				t.Fatalf("W8: then %+v = %v, and %v", o, x, y)
			}
		}
	}
	if notices < 200 {
		t.Errorf("few notices: %d", notices)
	}
}

// withoutIDs are the notices of a loan, without their IDs and what is acknowledged.
func withoutIDs(s api.State, number int) []api.Notice {
	var list []api.Notice
	for _, n := range s.Notices {
		if n.Loan == number {
			n.ID, n.Acked = 0, false
			list = append(list, n)
		}
	}
	return list
}

// W9: a loan and its notices are what they are in a servicer that hears of its own operations and the days alone, of those that were done.
func TestLoansDoNotTouch(t *testing.T) {
	t.Parallel()
	random := rand.New(rand.NewSource(1990))
	loans := 0
	for range 80 {
		p := anyPolicy(random)
		s := begin(t, p)
		var done []api.Op
		for range 100 {
			o := anyOp(random)
			before := s.s.State()
			r := s.s.Do(o)
			if changes(o.Kind) && (r.Err == api.OK || r.Err == api.ErrCrashed && !sameState(unmarked(before), unmarked(s.s.State()))) {
				done = append(done, o)
			}
		}
		state := s.s.State()
		for _, l := range state.Loans {
			alone := begin(t, p)
			for _, o := range done {
				if o.Kind != api.OpDay && o.Loan != l.ID {
					continue
				}
				if r := alone.s.Do(o); r.Err != api.OK {
					t.Fatalf("W9: alone %+v = %v", o, r)
				}
			}
			own := alone.s.State()
			if !sameLoan(find(own, l.ID), l) || !slices.Equal(withoutIDs(own, l.ID), withoutIDs(state, l.ID)) {
				t.Fatalf("W9: the loan\n%+v is alone\n%+v", l, own)
			}
			loans++
		}
	}
	if loans < 300 {
		t.Errorf("few loans: %d", loans)
	}
}
