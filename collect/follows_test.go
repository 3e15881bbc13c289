package collect_test

import (
	"math/rand"
	"testing"

	"arrears/api"
	"arrears/collect"
)

// life is a loan's case whose days come one after the other.
type life struct {
	t     *testing.T
	p     api.Policy
	c     api.Case
	today int
}

// play plays an event and holds what lies behind it to what is promised of every case.
func (l *life) play(e api.Event) {
	l.t.Helper()
	before := l.c
	next, acts, why := collect.Step(l.p, l.c, e)
	if isOver(before) && (next != before || len(acts) != 0 || why == api.OK) {
		l.t.Fatalf("13.13: %+v is left by %+v: %+v, %v, %d", before, e, next, acts, why)
	}
	l.c = next
	l.withinCaps()
	l.wellMade()
	if e.Kind == api.EventAge {
		l.inTime(why)
	}
}

// withinCaps holds the case to its budgets.
func (l *life) withinCaps() {
	l.t.Helper()
	c, p := l.c, l.p
	if c.CycleFees > p.CycleCap || c.LifeFees > p.LifeCap || c.CycleFees < 0 || c.CycleFees > c.LifeFees || c.Promises > p.Promises {
		l.t.Fatalf("13.14: %+v is beyond the caps of %+v", c, p)
	}
	if c.Restructures > p.Restructures {
		l.t.Fatalf("13.13: %+v was restructured too often under %+v", c, p)
	}
}

// wellMade holds the fields to what the words say of them: what belongs to a cycle or a promise is 0 where there is none.
func (l *life) wellMade() {
	l.t.Helper()
	c := l.c
	cycle := c.Suspended || c.Since != 0 || c.Deadline != 0 || c.Promises != 0 || c.CycleFees != 0
	promise := c.PromiseDue != 0 || c.PromiseAmount != 0
	running := c.PromiseDue > 0 && 0 <= c.PromiseGot && c.PromiseGot < c.PromiseAmount
	sound := collect.Open(c) && c.Since > 0 && c.Deadline > c.Since || !collect.Open(c) && !cycle
	sound = sound && (c.Status == api.Promised) == promise && promise == running && (promise || c.PromiseGot == 0)
	sound = sound && (c.Status != api.NonAccrual || c.Suspended) && (c.Status != api.Delinquent || !c.Suspended)
	if !sound || c.Status < 1 || c.Status > 9 {
		l.t.Fatalf("13.3: %+v is no case that may be", c)
	}
}

// inTime holds a cycle that is still open behind a day's EventAge to its bound.
func (l *life) inTime(why api.Errno) {
	l.t.Helper()
	if why != api.OK && why != api.ErrClosed {
		l.t.Fatalf("13.4: day %d is refused: %d", l.today, why)
	}
	bound := l.p.ChargeOff + l.p.Promises*l.p.PromiseDays
	if collect.Open(l.c) && l.today >= l.c.Since+bound {
		l.t.Fatalf("13.13: on day %d %+v is still open, beyond %d days under %+v", l.today, l.c, bound, l.p)
	}
}

// between is any event between two days but the closing and the cure; it never pays all that is past due.
func between(random *rand.Rand, p api.Policy, today int) api.Event {
	e := anyEvent(random, p, today)
	if e.Kind == api.EventAge || e.Kind == api.EventClose {
		e = promise(today, 1+random.Int63n(5), 1+random.Intn(p.PromiseDays))
	}
	if e.Kind == api.EventPromise {
		e.Today = today
	}
	if e.Kind == api.EventPaid && random.Intn(8) > 0 {
		e.Days = max(e.Days, 1)
	}
	return e
}

// 13.13, 13.14: whatever events come between the days, cycles are resolved in time and budgets kept.
func TestResolvedInTime(t *testing.T) {
	random := rand.New(rand.NewSource(1313))
	off, opened := 0, 0
	for range 2000 {
		l := &life{t: t, p: anyPolicy(random), c: collect.Fresh(), today: random.Intn(1000)}
		days := 0
		for range 60 {
			l.today++
			days = among(random, days+1, days+1, days+1, days, 0, random.Intn(9))
			l.play(age(l.today, days))
			for range random.Intn(5) {
				l.play(between(random, l.p, l.today))
			}
		}
		opened += l.c.Cycles
		if l.c.Status == api.ChargedOff {
			off++
		}
	}
	if off < 300 || opened < 3000 {
		t.Errorf("only %d were charged off, of %d cycles", off, opened)
	}
}

// 13.13: a borrower who promises whenever it is allowed comes just to the bound, and no day beyond.
func TestBoundIsReached(t *testing.T) {
	for promises := range 9 {
		for _, length := range []int{1, 7, 60} {
			p := with(func(p *api.Policy) { p.Promises, p.PromiseDays, p.ChargeOff = promises, length, 20 })
			l := &life{t: t, p: p, c: collect.Fresh(), today: 500}
			l.play(age(500, 6))
			for l.today < 500+20+promises*length {
				if !collect.Open(l.c) {
					t.Fatalf("13.13: %d promises of %d days: %+v on day %d, ahead of the bound", promises, length, l.c, l.today)
				}
				l.play(promise(l.today, 5, length))
				l.today++
				l.play(age(l.today, 7))
			}
			if l.c.Status != api.ChargedOff {
				t.Errorf("13.13: %d promises of %d days: %+v at the bound", promises, length, l.c)
			}
		}
	}
}

// alphabet are the events of one day of the walk below, small and of every kind.
func alphabet(today int) []api.Event {
	return []api.Event{
		age(today+1, 0), age(today+1, 1), age(today+1, 2), age(today+1, 3),
		paid(1, 1), paid(2, 0), returned(1), promise(today, 1, 1), promise(today, 2, 2),
		restructure(), fee(1), fee(2), shut(),
	}
}

// 13.13, 13.14: every case that can be reached within some days under a small policy, one after the other.
func TestEveryReachableCase(t *testing.T) {
	p := with(func(p *api.Policy) {
		p.Grace, p.NonAccrual, p.ChargeOff = 1, 3, 2
		p.CycleCap, p.LifeCap, p.Promises, p.PromiseDays, p.Restructures = 2, 3, 1, 2, 1
	})
	type place struct {
		c     api.Case
		today int
	}
	seen := map[place]bool{{collect.Fresh(), 1}: true}
	queue := []place{{collect.Fresh(), 1}}
	statuses := map[int]int{}
	for len(queue) > 0 {
		at := queue[0]
		queue = queue[1:]
		statuses[at.c.Status]++
		// Within some days no case runs away: all that is counted has a budget or needs a day.
		if len(seen) > 200000 {
			t.Fatalf("13.13: too many cases, the last is %+v", at.c)
		}
		for _, e := range alphabet(at.today) {
			l := &life{t: t, p: p, c: at.c, today: at.today}
			if e.Kind == api.EventAge {
				l.today++
			}
			l.play(e)
			next := place{l.c, l.today}
			if !seen[next] && next.today <= 8 {
				seen[next] = true
				queue = append(queue, next)
			}
		}
	}
	for status := 1; status <= 9; status++ {
		if statuses[status] < 10 {
			t.Errorf("the status %d was reached only %d times", status, statuses[status])
		}
	}
}
