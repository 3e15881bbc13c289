package engine_test

import (
	"math/rand"
	"slices"
	"testing"

	"arrears/api"
	"arrears/engine"
)

// illMade is a State that Load lets in, and whose loans no call made.
func illMade(random *rand.Rand, sound api.State) api.State {
	s := kept(sound)
	cents := func() int64 { return among[int64](random, least, -1, 0, 1, 5000, most/2, most) }
	wild := func() int {
		return among(random, least, -1, 0, 1, s.Today-1, s.Today, s.Today+1, s.Today+30, api.MaxDay, most)
	}
	for range 1 + random.Intn(4) {
		l := &s.Loans[random.Intn(len(s.Loans))]
		switch random.Intn(10) {
		case 0:
			l.Book.Net[random.Intn(api.Accounts)] = cents()
		case 1:
			l.Case.Status = among(random, least, -1, 0, 1, 2, 3, 4, 5, 6, 7, 8, 9, 10, most)
		case 2:
			l.Case.Deadline, l.Case.PromiseDue = wild(), wild()
		case 3:
			l.Plan = slices.Insert(l.Plan, random.Intn(len(l.Plan)+1), api.Instalment{Due: wild(), Interest: cents(), Principal: cents()})
		case 4:
			l.Plan = nil
		case 5:
			l.Terms = api.Terms{Kind: wild(), Principal: cents(), Rate: cents(), Count: wild(), Start: wild(), Rule: wild()}
		case 6:
			l.Last, l.HasLast = api.Parts{Fees: cents(), Interest: cents(), Principal: cents(), Unapplied: cents(), Recovery: cents()}, true
		case 7:
			l.Carry, l.Applied, l.ChargedOff, l.Trace = cents(), cents(), cents(), wild()
		case 8:
			l.Case.Since, l.Case.Promises, l.Case.PromiseAmount, l.Case.PromiseGot, l.Case.CycleFees, l.Case.LifeFees = wild(), wild(), cents(), cents(), cents(), cents()
		case 9:
			l.Case.Suspended, l.Case.Cycles, l.Case.Kept, l.Case.Broken, l.Case.Cures, l.Case.Restructures = random.Intn(2) == 0, wild(), wild(), wild(), wild(), wild()
		}
	}
	for i := range s.Notices {
		if random.Intn(3) == 0 {
			s.Notices[i] = api.Notice{ID: i + 1, Loan: wild(), Kind: wild(), Day: wild(), Amount: cents(), Acked: random.Intn(2) == 0}
		}
	}
	return s
}

// 15: of loans that no call made the calls end and do not panic, Save tells them as they were handed in, and the notices alone are acknowledged; what is refused changes nothing.
func TestIllMade(t *testing.T) {
	random := rand.New(rand.NewSource(1599))
	errors := map[api.Errno]int{}
	for range 600 {
		p := anyPolicy(random)
		m := &model{p: p, s: lived(t, random, p)}
		if len(m.s.Loans) == 0 {
			continue
		}
		given := illMade(random, m.s)
		s := loaded(t, p, given)
		for i := range given.Notices {
			if random.Intn(2) == 0 {
				s.acknowledges(i+1, !given.Notices[i].Acked)
				given.Notices[i].Acked = true
			}
		}
		for range 10 {
			s.e.Check(anyOp(random, m))
			for _, q := range queries(given.Loans[random.Intn(len(given.Loans))].ID) {
				s.e.Ask(q)
			}
		}
		s.e.Timers()
		s.owes(slices.DeleteFunc(slices.Clone(given.Notices), func(n api.Notice) bool { return n.Acked })...)
		if got := s.e.Save(); !sameState(got, given) {
			t.Fatalf("15: Save tells\n%+v, not\n%+v", got, given)
		}
		for range 25 {
			before := s.e.Save()
			o := anyOp(random, m)
			r := s.e.Apply(o)
			errors[r.Err]++
			behind := s.e.Save()
			if r.Err != api.OK && (len(r.Nums) > 0 || !sameState(behind, before)) {
				t.Fatalf("15.5: %+v is refused with %v, and changes\n%+v to\n%+v", o, r, before, behind)
			}
			// Whatever comes out can be laid down and taken up again, as a snapshot is.
			again, why := engine.Load(p, behind)
			if why != api.OK || !sameState(again.Save(), behind) || !slices.Equal(again.Timers(), s.e.Timers()) {
				t.Fatalf("15.2: Load of what Save told of ill-made loans: %d", why)
			}
		}
	}
	if errors[api.OK] < 100 || errors[api.ErrRange] < 50 || errors[api.ErrSide] < 50 {
		t.Errorf("few of the loans were ill: %v", errors)
	}
}

// 15.5: a roll that is refused refuses the whole operation: no loan has moved, whichever it is and on whichever day.
func TestRefusedRoll(t *testing.T) {
	for _, ill := range []int{0, 1, 2} {
		state := grown(t)
		// Its interest finds no room, on the first day on which a cent accrues.
		state.Loans[ill].Book.Net[api.Interest] = most
		state.Loans[ill].Terms.Rate = 1000
		s := loaded(t, example(), state)
		for _, count := range []int{1, 2, 60} {
			r := s.e.Apply(days(count))
			if r.Err == api.OK {
				t.Errorf("15.5: %d days with a loan that finds no room: %v", count, r)
			}
			if s.e.Check(days(count)) != r.Err || !sameState(s.e.Save(), state) || !slices.Equal(s.e.Timers(), union(s.p, state)) {
				t.Errorf("15.5: %d days are refused and change something", count)
			}
		}
	}
}

// 15: a timer that lies behind today, as none of a loan does that calls made, does not stop the days: they go on as loan.Roll leads them.
func TestOverdueTimer(t *testing.T) {
	for name, change := range map[string]func(c *api.Case){
		"a deadline of today":      func(c *api.Case) { c.Deadline = first + 42 },
		"a deadline long ago":      func(c *api.Case) { c.Deadline = least },
		"a promise due yesterday":  func(c *api.Case) { c.Status, c.PromiseDue = api.Promised, first+41 },
		"a promise due long ago":   func(c *api.Case) { c.Status, c.PromiseDue = api.Promised, least },
		"a promise without an end": func(c *api.Case) { c.Status, c.PromiseDue = api.Promised, most },
	} {
		made := begin(t, example())
		made.does(open(3, 120000, 900, 12, api.PlanLevel), open(7, 120000, 900, 12, api.PlanLevel), days(42))
		state := made.e.Save()
		change(&state.Loans[0].Case)
		for _, count := range []int{1, 2, 35} {
			s := loaded(t, example(), state)
			s.does(days(count))
			if got, want := s.e.Save(), rolled(t, s.p, state, count); !sameState(got, want) {
				t.Errorf("15.5: with %s, behind %d days, the portfolio is\n%+v, want\n%+v", name, count, got, want)
			}
		}
	}
}

// 15.6: a sum or a balance that does not fit is refused; of loans that calls made, those of their principals always fit.
func TestAskBeyondRange(t *testing.T) {
	made := begin(t, example())
	made.does(open(3, 120000, 0, 12, api.PlanLevel), open(7, 120000, 0, 12, api.PlanLevel))
	state := made.e.Save()
	state.Loans[0].Book.Net[api.Principal] = most - 120000
	s := loaded(t, example(), state)
	s.asks(query(api.OpAging), 2, most, 0, 0, 0, 0, 0, 0, 0, 0, 0, 0)
	state.Loans[0].Book.Net[api.Principal]++
	s = loaded(t, example(), state)
	s.asksNone(query(api.OpAging), api.ErrRange)
	s.asksNone(query(api.OpBooks), api.ErrRange)

	state = made.e.Save()
	state.Loans[1].Book.Net[api.Unapplied] = least
	s = loaded(t, example(), state)
	s.asksNone(query(api.OpBooks), api.ErrRange)
	state.Loans[1].Book.Net[api.Unapplied]++
	s = loaded(t, example(), state)
	s.asks(query(api.OpBooks), 0, 240000, 0, 0, most, 0, 240000, 0, 0, 0, 0, 0)
}
