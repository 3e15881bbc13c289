package engine_test

import (
	"math/rand"
	"slices"
	"testing"

	"arrears/api"
)

// lived is a portfolio in the midst of a life, as Save tells it.
func lived(t *testing.T, random *rand.Rand, p api.Policy) api.State {
	t.Helper()
	s, m := begin(t, p), &model{p: p, s: api.State{Today: p.FirstDay}}
	for range 30 {
		o := anyOp(random, m)
		if r := s.e.Apply(o); !sameReply(r, m.does(o)) {
			t.Fatalf("15.5: Apply(%+v) = %v", o, r)
		}
	}
	return s.e.Save()
}

// 15.11: two day operations leave what one of all their days leaves.
func TestDaysAddUp(t *testing.T) {
	random := rand.New(rand.NewSource(1511))
	notices := 0
	for range 300 {
		p := anyPolicy(random)
		state := lived(t, random, p)
		room := min(60, api.MaxDay-state.Today)
		if room < 2 {
			continue
		}
		a := 1 + random.Intn(room-1)
		b := 1 + random.Intn(room-a)
		once, twice := loaded(t, p, state), loaded(t, p, state)
		twice.does(days(a), days(b))
		once.does(days(a + b))
		if !sameState(once.e.Save(), twice.e.Save()) || !slices.Equal(once.e.Timers(), twice.e.Timers()) {
			t.Fatalf("15.11: %d and %d days of\n%+v leave\n%+v, together\n%+v", a, b, state, twice.e.Save(), once.e.Save())
		}
		notices += len(once.e.Save().Notices) - len(state.Notices)
	}
	if notices < 200 {
		t.Errorf("few notices: %d", notices)
	}
}

// alone is what a loan and its notices come to, if only its own operations and the day operations are done.
func alone(t *testing.T, p api.Policy, ops []api.Op, number int) (api.Loan, []api.Notice) {
	t.Helper()
	s := begin(t, p)
	for _, o := range ops {
		if o.Kind == api.OpDay || o.Loan == number {
			s.does(o)
		}
	}
	state := s.e.Save()
	if len(state.Loans) != 1 {
		t.Fatalf("15.11: the loan %d is not alone: %+v", number, state)
	}
	return state.Loans[0], withoutIDs(state.Notices, number)
}

// withoutIDs are the notices of a loan.
func withoutIDs(notices []api.Notice, number int) []api.Notice {
	var list []api.Notice
	for _, n := range notices {
		if n.Loan == number {
			n.ID = 0
			list = append(list, n)
		}
	}
	return list
}

// 15.11: each loan is what it would be alone.
func TestLoansDoNotTouch(t *testing.T) {
	random := rand.New(rand.NewSource(1512))
	for range 60 {
		p := anyPolicy(random)
		s, m := begin(t, p), &model{p: p, s: api.State{Today: p.FirstDay}}
		var taken []api.Op
		for range 60 {
			o := anyOp(random, m)
			m.does(o)
			if r := s.e.Apply(o); r.Err == api.OK {
				taken = append(taken, o)
			}
		}
		state := s.e.Save()
		for _, l := range state.Loans {
			own, notices := alone(t, p, taken, l.ID)
			if !sameLoan(own, l) || !slices.Equal(notices, withoutIDs(state.Notices, l.ID)) {
				t.Fatalf("15.11: the loan\n%+v is alone\n%+v", l, own)
			}
		}
	}
}

// 15.11: a payment with a trace number is taken once, whatever comes behind it.
func TestTakenOnce(t *testing.T) {
	random := rand.New(rand.NewSource(1513))
	again := 0
	for range 150 {
		p := anyPolicy(random)
		s, m := begin(t, p), &model{p: p, s: api.State{Today: p.FirstDay}}
		var taken []api.Op
		for range 60 {
			o := anyOp(random, m)
			m.does(o)
			if r := s.e.Apply(o); r.Err == api.OK && o.Kind == api.OpPay && o.Count > 0 {
				taken = append(taken, o)
			}
			if len(taken) > 0 {
				s.fails(api.ErrExists, among(random, taken...))
				again++
			}
			if random.Intn(20) == 0 {
				s = loaded(t, p, s.e.Save())
			}
		}
	}
	if again < 500 {
		t.Errorf("few payments came again: %d", again)
	}
}

// 15.2: a portfolio that is laid down and taken up behind every call goes on as the one that never was.
func TestTakenUpAgain(t *testing.T) {
	random := rand.New(rand.NewSource(1514))
	for range 100 {
		p := anyPolicy(random)
		e, m := begin(t, p), &model{p: p, s: api.State{Today: p.FirstDay}}
		f := begin(t, p)
		for range 40 {
			o := anyOp(random, m)
			m.does(o)
			if a, b := e.e.Apply(o), f.e.Apply(o); !sameReply(a, b) {
				t.Fatalf("15.2: Apply(%+v) = %v, taken up again %v", o, a, b)
			}
			id := random.Intn(len(m.s.Notices) + 1)
			if e.e.Acknowledge(id) != f.e.Acknowledge(id) {
				t.Fatalf("15.2: Acknowledge(%d) differs", id)
			}
			f = loaded(t, p, f.e.Save())
			if !sameState(e.e.Save(), f.e.Save()) || !slices.Equal(e.e.Timers(), f.e.Timers()) || !slices.Equal(e.e.Unacknowledged(), f.e.Unacknowledged()) {
				t.Fatalf("15.2: taken up again a portfolio is\n%+v, not\n%+v", f.e.Save(), e.e.Save())
			}
			for _, q := range queries(o.Loan) {
				if a, b := e.e.Ask(q), f.e.Ask(q); !sameReply(a, b) {
					t.Fatalf("15.2: Ask(%+v) = %v, taken up again %v", q, a, b)
				}
			}
		}
	}
}

// 15.4: Check changes nothing, however often and of whatever it is asked.
func TestCheckChangesNothing(t *testing.T) {
	random := rand.New(rand.NewSource(1515))
	for range 60 {
		p := anyPolicy(random)
		state := lived(t, random, p)
		s, m := loaded(t, p, state), &model{p: p, s: state}
		timers := s.e.Timers()
		for range 40 {
			o := anyOp(random, m)
			want := loaded(t, p, state).e.Apply(o).Err
			if a, b := s.e.Check(o), s.e.Check(o); a != want || b != want {
				t.Fatalf("15.4: Check(%+v) = %d, then %d, want %d", o, a, b, want)
			}
		}
		if !sameState(s.e.Save(), state) || !slices.Equal(s.e.Timers(), timers) {
			t.Fatalf("15.4: behind Checks the portfolio is\n%+v, want\n%+v", s.e.Save(), state)
		}
	}
}
