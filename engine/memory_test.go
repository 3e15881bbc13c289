package engine_test

import (
	"slices"
	"sync"
	"testing"

	"arrears/api"
)

// guarded lays a list into the midst of a longer memory, and hands out that memory too.
func guarded[T any](list []T, guard T) (inside, all []T) {
	all = slices.Concat([]T{guard, guard}, list, slices.Repeat([]T{guard}, 16))
	return all[2 : 2+len(list)], all
}

// scribble writes over a list and over its spare room.
func scribble[T any](list []T, with T) {
	list = list[:cap(list)]
	for i := range list {
		list[i] = with
	}
}

// spoil writes over all the memory of a State.
func spoil(s api.State) {
	for _, l := range s.Loans {
		scribble(l.Plan, api.Instalment{Due: 5, Interest: 5, Principal: 5, Marked: true})
	}
	scribble(s.Loans, api.Loan{ID: 5})
	scribble(s.Notices, api.Notice{ID: 5, Acked: true})
}

// busy are operations of all kinds that grown takes, one behind the other.
func busy() []api.Op {
	return []api.Op{
		days(3), pay(9, 100), giveBack(9), open(4, 1000, 0, 2, api.PlanEqual), pay(4, 1001), refund(4, 1), waive(7, 3),
		promise(7, 500, 9), restructure(9, 3, 100), days(60), days(60), days(60), pay(7, 10), days(7),
	}
}

// What holds everywhere: the policy's holidays and a State's lists are left as they are, what lies around them too.
func TestListsStay(t *testing.T) {
	state := grown(t)
	for i, l := range state.Loans {
		state.Loans[i].Plan, _ = guarded(l.Plan, api.Instalment{Due: 7})
	}
	loans, aroundLoans := guarded(state.Loans, api.Loan{ID: 77})
	notices, aroundNotices := guarded(state.Notices, api.Notice{ID: 77})
	holidays, aroundDays := guarded([]int{738062, 738092}, 77)
	s := api.State{Today: state.Today, Loans: loans, Notices: notices}
	p := with(func(p *api.Policy) { p.Holidays = holidays })
	before, beforeNotices, beforeDays := kept(api.State{Loans: aroundLoans}), slices.Clone(aroundNotices), slices.Clone(aroundDays)
	var plans [][]api.Instalment
	for _, l := range loans {
		plans = append(plans, slices.Clone(l.Plan[:cap(l.Plan)]))
	}
	live := loaded(t, p, s)
	live.does(busy()...)
	for id := range 9 {
		live.e.Acknowledge(id)
	}
	for _, q := range queries(7) {
		live.e.Ask(q)
	}
	if !sameState(api.State{Loans: aroundLoans}, before) || !slices.Equal(aroundNotices, beforeNotices) || !slices.Equal(aroundDays, beforeDays) {
		t.Errorf("15: lists that were handed in are changed")
	}
	for i, l := range loans {
		if !slices.Equal(l.Plan[:cap(l.Plan)], plans[i]) {
			t.Errorf("15: a plan that was handed in is changed: %v", l.Plan[:cap(l.Plan)])
		}
	}
}

// What holds everywhere: nothing that is handed in is kept: what becomes of it later is not seen.
func TestNothingHandedInIsKept(t *testing.T) {
	holidays := []int{738040, 738062, 738092}
	p := with(func(p *api.Policy) { p.Holidays, p.Rule = holidays, api.RuleFollowing })
	own := p
	own.Holidays = slices.Clone(holidays)
	state := grown(t)
	want, fresh := loaded(t, own, kept(state)), begin(t, own)
	given := kept(state)
	got, other := loaded(t, p, given), begin(t, p)
	spoil(given)
	scribble(holidays, 1)
	for _, o := range slices.Concat([]api.Op{open(1, 1000, 500, 12, api.PlanLevel)}, busy()) {
		if a, b := got.e.Apply(o), want.e.Apply(o); !sameReply(a, b) {
			t.Errorf("15: Apply(%+v) = %v, want %v", o, a, b)
		}
		if a, b := other.e.Apply(o), fresh.e.Apply(o); !sameReply(a, b) {
			t.Errorf("15: of a new portfolio Apply(%+v) = %v, want %v", o, a, b)
		}
	}
	if !sameState(got.e.Save(), want.e.Save()) || !sameState(other.e.Save(), fresh.e.Save()) {
		t.Errorf("15: what was handed in is kept")
	}
}

// What holds everywhere: an answer is new memory, and nothing in it changes with what is called later.
func TestAnswersAreNew(t *testing.T) {
	s := loaded(t, example(), grown(t))
	for _, o := range busy() {
		first, second := s.e.Save(), s.e.Save()
		whole, timers, owed := kept(second), s.e.Timers(), s.e.Unacknowledged()
		keptTimers, keptOwed := slices.Clone(timers), slices.Clone(owed)
		spoil(first)
		scribble(s.e.Timers(), api.Timer{Day: 5})
		scribble(s.e.Unacknowledged(), api.Notice{ID: 5, Acked: true})
		for _, q := range queries(7) {
			a := s.e.Ask(q)
			nums := slices.Clone(a.Nums)
			b := s.e.Ask(q)
			scribble(a.Nums, 5)
			if !slices.Equal(b.Nums, nums) || !slices.Equal(s.e.Ask(q).Nums, nums) {
				t.Errorf("15.6: two answers to %+v share memory", q)
			}
		}
		if !sameState(second, whole) || !sameState(s.e.Save(), whole) {
			t.Errorf("15.3: two answers of Save share memory, or one with the portfolio")
		}
		if !slices.Equal(s.e.Timers(), keptTimers) || !slices.Equal(s.e.Unacknowledged(), keptOwed) {
			t.Errorf("15.8, 15.9: two answers share memory, or one with the portfolio")
		}
		r := s.e.Apply(o)
		scribble(r.Nums, 5)
		s.e.Acknowledge(len(whole.Notices))
		if !sameState(second, whole) || !slices.Equal(timers, keptTimers) || !slices.Equal(owed, keptOwed) {
			t.Errorf("15: an answer changes with %+v", o)
		}
	}
}

// What holds everywhere: no two lists of one Save share memory, their spare room neither.
func TestListsOfOneAnswer(t *testing.T) {
	s := loaded(t, example(), grown(t)).e.Save()
	for i := range s.Loans {
		whole := kept(s)
		list := s.Loans[i].Plan
		scribble(list, api.Instalment{Due: 5})
		s.Loans[i].Plan, whole.Loans[i].Plan = nil, nil
		if !sameState(s, whole) {
			t.Errorf("15.3: a plan shares memory with another list of its answer")
		}
	}
}

// Two Engines share nothing, those that were taken up from one State neither.
func TestTwoEngines(t *testing.T) {
	state := grown(t)
	a, b := loaded(t, example(), state), loaded(t, example(), state)
	before, timers := b.e.Save(), b.e.Timers()
	a.does(busy()...)
	a.e.Acknowledge(1)
	if !sameState(b.e.Save(), before) || !slices.Equal(b.e.Timers(), timers) {
		t.Errorf("15: what one Engine does another one sees")
	}
	b.does(busy()...)
	b.e.Acknowledge(1)
	if !sameState(a.e.Save(), b.e.Save()) {
		t.Errorf("15: two Engines of one State have gone two ways")
	}
}

// 15.6: queries change nothing, so several may be asked at one time.
func TestQueriesAtOneTime(t *testing.T) {
	s := loaded(t, example(), grown(t))
	var want []api.Reply
	for _, q := range queries(7) {
		want = append(want, s.e.Ask(q))
	}
	var all sync.WaitGroup
	for range 8 {
		all.Go(func() {
			for i, q := range queries(7) {
				if got := s.e.Ask(q); !sameReply(got, want[i]) {
					t.Errorf("15.6: Ask(%+v) = %v, want %v", q, got, want[i])
				}
			}
		})
	}
	all.Wait()
}
