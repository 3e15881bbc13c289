package engine_test

import (
	"math/rand"
	"slices"
	"testing"

	"arrears/api"
	"arrears/engine"
)

// badPolicies may not be, each for one field.
func badPolicies() []api.Policy {
	return []api.Policy{
		{},
		with(func(p *api.Policy) { p.FirstDay = 0 }),
		with(func(p *api.Policy) { p.FirstDay = api.MaxDay + 1 }),
		with(func(p *api.Policy) { p.Grace = -1 }),
		with(func(p *api.Policy) { p.NonAccrual = 10 }),
		with(func(p *api.Policy) { p.Order = 6 }),
		with(func(p *api.Policy) { p.SnapEvery = 1001 }),
		with(func(p *api.Policy) { p.Holidays = []int{5, 5} }),
	}
}

// 15.1: a policy that may not be makes no portfolio; any other makes an empty one at its first day.
func TestNew(t *testing.T) {
	for _, p := range badPolicies() {
		if e, why := engine.New(p); e != nil || why != api.ErrPolicy {
			t.Errorf("15.1: New(%+v) = %v, %d", p, e, why)
		}
	}
	for _, day := range []int{1, 2, first, api.MaxDay - 1, api.MaxDay} {
		s := begin(t, with(func(p *api.Policy) { p.FirstDay = day }))
		if got := s.e.Save(); !sameState(got, api.State{Today: day}) {
			t.Errorf("15.1: a new portfolio at %d is %+v", day, got)
		}
		s.asks(query(api.OpToday), int64(day), 0)
		s.asks(query(api.OpBooks), make([]int64, 12)...)
		s.asks(query(api.OpAging), make([]int64, 12)...)
		s.asks(query(api.OpNotices), 0, 0)
		s.asks(query(api.OpTimers))
		s.owes()
		s.acknowledges(1, false)
	}
}

// grown is a portfolio of three loans and some notices, as Save tells it.
func grown(t *testing.T) api.State {
	t.Helper()
	s := begin(t, example())
	s.does(open(9, 50000, 900, 6, api.PlanEqual), open(7, 120000, 0, 12, api.PlanLevel), days(20), open(api.MaxLoan, 3650000, 1000, 2, api.PlanBalloon), days(45), pay(9, 700))
	s.acknowledges(2, true)
	state := s.e.Save()
	if len(state.Loans) != 3 || len(state.Notices) < 4 {
		t.Fatalf("few loans or notices: %+v", state)
	}
	return state
}

// 15.2: each thing that may not be in a State is ErrDamaged, and a policy that may not be comes ahead of it.
func TestLoadDamaged(t *testing.T) {
	damages := map[string]func(s *api.State){
		"today 0":                        func(s *api.State) { s.Today = 0; s.Loans = nil },
		"today below 0":                  func(s *api.State) { s.Today = least; s.Loans = nil },
		"today behind the last":          func(s *api.State) { s.Today = api.MaxDay + 1; s.Loans = nil },
		"today 0, and so the loans":      func(s *api.State) { allAt(s, 0) },
		"today too late, so the loans":   func(s *api.State) { allAt(s, api.MaxDay+1) },
		"33 loans":                       func(s *api.State) { s.Loans = many(s.Loans[0], 33) },
		"a number 0":                     func(s *api.State) { s.Loans[0].ID = 0 },
		"a number below 0":               func(s *api.State) { s.Loans[0].ID = -1 },
		"the least number":               func(s *api.State) { s.Loans[0].ID = least },
		"a number too great":             func(s *api.State) { s.Loans[2].ID = api.MaxLoan + 1 },
		"the greatest number":            func(s *api.State) { s.Loans[2].ID = most },
		"twice a number":                 func(s *api.State) { s.Loans[1].ID = s.Loans[0].ID },
		"the last number twice":          func(s *api.State) { s.Loans[1].ID = s.Loans[2].ID },
		"numbers that fall":              func(s *api.State) { s.Loans[0], s.Loans[1] = s.Loans[1], s.Loans[0] },
		"the first loan a day late":      func(s *api.State) { s.Loans[0].Day++ },
		"the last loan a day early":      func(s *api.State) { s.Loans[2].Day-- },
		"a loan of no day":               func(s *api.State) { s.Loans[1].Day = 0 },
		"all loans late":                 func(s *api.State) { s.Today-- },
		"no first notice":                func(s *api.State) { s.Notices = s.Notices[1:] },
		"a notice 0":                     func(s *api.State) { s.Notices[0].ID = 0 },
		"a notice below 0":               func(s *api.State) { s.Notices[0].ID = -1 },
		"twice a notice":                 func(s *api.State) { s.Notices[1].ID = 1 },
		"a notice left out":              func(s *api.State) { s.Notices = slices.Delete(s.Notices, 1, 2) },
		"notices out of order":           func(s *api.State) { s.Notices[1], s.Notices[2] = s.Notices[2], s.Notices[1] },
		"a last notice of a wrong ID":    func(s *api.State) { s.Notices[len(s.Notices)-1].ID++ },
		"a notice of no ID, and no loan": func(s *api.State) { s.Loans = nil; s.Notices = []api.Notice{{}} },
	}
	for name, damage := range damages {
		s := kept(grown(t))
		damage(&s)
		before := kept(s)
		if e, why := engine.Load(example(), s); e != nil || why != api.ErrDamaged {
			t.Errorf("15.2: Load with %s = %v, %d", name, e, why)
		}
		for _, p := range badPolicies() {
			if e, why := engine.Load(p, s); e != nil || why != api.ErrPolicy {
				t.Errorf("15.2: Load with %s, under a policy that may not be = %v, %d", name, e, why)
			}
		}
		if !sameState(s, before) {
			t.Errorf("15.2: Load with %s changes the State", name)
		}
	}
	for _, p := range badPolicies() {
		if e, why := engine.Load(p, grown(t)); e != nil || why != api.ErrPolicy {
			t.Errorf("15.2: Load under a policy that may not be = %v, %d", e, why)
		}
	}
}

// allAt brings a portfolio and its loans to a day.
func allAt(s *api.State, day int) {
	s.Today = day
	for i := range s.Loans {
		s.Loans[i].Day = day
	}
}

// many are so many loans that are all like one, with the numbers from 1 on.
func many(l api.Loan, count int) []api.Loan {
	list := slices.Repeat([]api.Loan{l}, count)
	for i := range list {
		list[i].ID = i + 1
	}
	return list
}

// 15.2: what lies just within the bounds is let in, and told as it is.
func TestLoadBounds(t *testing.T) {
	state := grown(t)
	for name, change := range map[string]func(s *api.State){
		"nothing":                 func(s *api.State) { *s = api.State{Today: 1} },
		"the last day":            func(s *api.State) { *s = api.State{Today: api.MaxDay} },
		"lists that are empty":    func(s *api.State) { s.Loans, s.Notices = []api.Loan{}, []api.Notice{} },
		"32 loans":                func(s *api.State) { s.Loans = many(s.Loans[1], 32) },
		"the first day, with":     func(s *api.State) { allAt(s, 1) },
		"the last day, with":      func(s *api.State) { allAt(s, api.MaxDay) },
		"the least and the most":  func(s *api.State) { s.Loans[0].ID, s.Loans[2].ID = 1, api.MaxLoan },
		"numbers side by side":    func(s *api.State) { s.Loans[0].ID, s.Loans[1].ID, s.Loans[2].ID = 4, 5, 6 },
		"no notices":              func(s *api.State) { s.Notices = nil },
		"one notice":              func(s *api.State) { s.Notices = s.Notices[:1] },
		"a day ahead of FirstDay": func(s *api.State) { allAt(s, first-1) },
	} {
		s := kept(state)
		change(&s)
		if got := loaded(t, example(), s).e.Save(); !sameState(got, s) {
			t.Errorf("15.2, 15.3: Load with %s tells %+v, want %+v", name, got, s)
		}
	}
}

// 15.2: a State without loans is never ill-made: it keeps its day and its notices, whatever they are, and goes on from there.
func TestLoadWithoutLoans(t *testing.T) {
	strange := []api.Notice{
		{ID: 1, Loan: least, Kind: most, Day: -1, Amount: least, Acked: true},
		{ID: 2, Loan: 7, Kind: 0, Day: most, Amount: most},
		{ID: 3},
		{ID: 4, Loan: 8, Kind: 5, Day: 12, Amount: 1500, Acked: true},
	}
	for _, day := range []int{1, 738031, api.MaxDay - 60} {
		s := loaded(t, example(), api.State{Today: day, Notices: strange})
		s.asks(query(api.OpToday), int64(day), 0)
		s.asks(query(api.OpNotices), 4, 2)
		s.owes(strange[1], strange[2])
		s.acknowledges(1, false)
		s.acknowledges(2, true)
		s.acknowledges(5, false)
		s.goes(days(1), int64(day+1), 0)
		s.does(open(3, 50000, 0, 1, api.PlanLevel))
		s.goes(pay(3, 50001), 0, 0, 50000, 1, 0, api.Closed)
		want := slices.Clone(strange)
		want[1].Acked = true
		want = append(want, api.Notice{ID: 5, Loan: 3, Kind: api.NoticePaidOff, Day: day + 1})
		if got := s.e.Save().Notices; !slices.Equal(got, want) {
			t.Errorf("15.5: the notices are %+v, want %+v", got, want)
		}
	}
}

// 15.3: Save tells the loans by rising number, in whatever order they were opened.
func TestSaveByRisingNumber(t *testing.T) {
	random := rand.New(rand.NewSource(153))
	for range 30 {
		s := begin(t, example())
		numbers := random.Perm(40)[:random.Intn(33)]
		for i, n := range numbers {
			numbers[i] = 1 + n*25640 // from 1 to 999961
			s.does(open(numbers[i], 1000, 0, 2, api.PlanLevel))
		}
		slices.Sort(numbers)
		var got []int
		for _, l := range s.e.Save().Loans {
			got = append(got, l.ID)
		}
		if !slices.Equal(got, numbers) {
			t.Fatalf("15.3: Save tells the loans %v, want %v", got, numbers)
		}
		s.asks(query(api.OpToday), first, int64(len(numbers)))
	}
}

// 15.3: of a portfolio nothing is left out: every field of a loan and of a notice comes back.
func TestSaveTellsAll(t *testing.T) {
	l := api.Loan{
		ID: 5, Terms: api.Terms{Kind: 1, Principal: 2, Rate: 3, Count: 4, Start: 5, Rule: 6},
		Plan: []api.Instalment{{Due: 7, Interest: 8, Principal: 9, Marked: true}, {Due: 10, Interest: -11, Principal: 12}},
		Case: api.Case{
			Status: 13, Suspended: true, Cycles: 14, Since: 15, Deadline: 16, Promises: 17, PromiseDue: 18, PromiseAmount: 19,
			PromiseGot: 20, Kept: 21, Broken: 22, Cures: 23, Restructures: 24, CycleFees: 25, LifeFees: 26,
		},
		Day: 27, Carry: 28, Applied: 29, Last: api.Parts{Fees: 30, Interest: 31, Principal: 32, Unapplied: 33, Recovery: 34},
		HasLast: true, ChargedOff: 35, Trace: 36,
	}
	for account := range l.Book.Net {
		l.Book.Net[account] = int64(40 + account)
	}
	s := api.State{Today: 27, Loans: []api.Loan{l}, Notices: []api.Notice{{ID: 1, Loan: 2, Kind: 3, Day: 4, Amount: 5, Acked: true}}}
	if got := loaded(t, example(), s).e.Save(); !sameState(got, s) {
		t.Errorf("15.3: Save = %+v, want %+v", got, s)
	}
}
