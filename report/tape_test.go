package report_test

import (
	"runtime"
	"slices"
	"testing"
	"time"

	"arrears/api"
	"arrears/report"
)

// everyStatus is a portfolio on the day 738065 (2021-10-02) with a loan of each status, and the policy that it lived under: a cycle opens with the sixth day past due, and each row that is missed costs 15.00.
func everyStatus(t *testing.T) (api.Policy, api.State) {
	t.Helper()
	p := with(func(p *api.Policy) { p.Grace, p.NonAccrual, p.ChargeOff, p.LateRate, p.LateMax = 5, 30, 25, 0, 1500 })
	third := func(number int) api.Op { return open(number, 90000, 0, 3, api.PlanEqual) }
	half := func(number int) api.Op { return open(number, 3650000, 1000, 2, api.PlanEqual) }
	return p, lived(t, p,
		third(2), third(1), half(50), third(999999), third(61), third(60), third(9),
		pay(1, 60000), pay(2, 30000), pay(9, 90050),
		days(20), half(42), half(41),
		days(17), promise(50, 100, 14),
		days(3), pay(60, 61500), restructure(61, 3, 0),
		days(18), promise(42, 100, 14),
		days(7), pay(999999, 91750),
	)
}

// 21.1: a line of ten words for each loan, in their order, with the word of every status.
func TestTapeOfEveryStatus(t *testing.T) {
	p, s := everyStatus(t)
	tapes(t, p, s,
		"1 current 0 0 0.00 0.00 0.00 300.00 0.00 2021-10-29",
		"2 grace 3 1 300.00 0.00 0.00 600.00 0.00 2021-09-29",
		"9 closed 0 0 0.00 0.00 0.00 0.00 0.50 -",
		"41 delinquent 14 1 18554.17 15.00 450.00 36500.00 0.00 2021-09-18",
		"42 promised 14 1 18554.17 15.00 450.00 36500.00 0.00 2021-09-18",
		"50 non-accrual 34 2 37150.00 15.00 650.00 36500.00 0.00 2021-08-29",
		"60 cured 0 0 0.00 0.00 0.00 300.00 0.00 2021-10-29",
		"61 restructured 0 0 0.00 0.00 0.00 915.00 0.00 2021-10-07",
		"999999 charged-off 0 0 0.00 0.00 0.00 0.00 2.50 -",
	)
}

// 21.1: the greatest numbers, and the first and the last days that there are.
func TestTapeAtTheEnds(t *testing.T) {
	p := with(func(p *api.Policy) { p.FirstDay = 1 })
	tapes(t, p, lived(t, p, open(999999, api.MaxPrincipal, api.MaxRate, 120, api.PlanBalloon)),
		"999999 current 0 0 0.00 0.00 0.00 100000000000.00 0.00 0001-02-01")
	p = with(func(p *api.Policy) { p.FirstDay = api.MaxDay - 60 })
	tapes(t, p, lived(t, p, open(1, 1, 0, 1, api.PlanLevel), days(60)),
		"1 delinquent 30 2 0.01 15.00 0.00 0.01 0.00 9999-12-01")
	p.ChargeOff = 365
	p.FirstDay = first
	old := []api.Op{open(1, api.MaxPrincipal, api.MaxRate, 1, api.PlanBalloon), days(60), days(60), days(60), days(60), days(60), days(60)}
	tapes(t, p, lived(t, p, old...),
		"1 non-accrual 329 4 1086301369863.01 100.00 986301369863.01 100000000000.00 0.00 2021-08-29")
}

// 21.1: under a policy that may not be there are no lines, whatever policy the portfolio lived under.
func TestTapeUnderRefusedPolicies(t *testing.T) {
	_, s := everyStatus(t)
	for _, p := range refused() {
		tapes(t, p, s)
		tapes(t, p, late(t))
		tapes(t, p, api.State{})
	}
}

// 21.1: no loans, no lines, whatever the day and the notices are.
func TestTapeOfNoLoans(t *testing.T) {
	tapes(t, example(), api.State{})
	tapes(t, example(), api.State{Today: first, Loans: []api.Loan{}, Notices: []api.Notice{{ID: 1, Loan: 7, Kind: 2, Day: first}}})
	tapes(t, example(), lived(t, example(), days(60)))
}

// crowd is a portfolio of as many loans as there may be, each with a principal of its own.
func crowd(t *testing.T) (api.State, []string) {
	t.Helper()
	var ops []api.Op
	var want []string
	for i := range api.MaxLoans {
		ops = append(ops, open(7*(api.MaxLoans-i), int64(100*(api.MaxLoans-i)), 0, 1, api.PlanEqual))
		want = append(want, text(7*(i+1))+" current 0 0 0.00 0.00 0.00 "+text(i+1)+".00 0.00 2021-08-29")
	}
	return lived(t, example(), ops...), want
}

// 21.1: the lines stand in the loans' order, whichever was made first, on however many threads.
func TestTapeInOrder(t *testing.T) {
	s, want := crowd(t)
	for _, threads := range []int{1, 2, 3, runtime.NumCPU()} {
		before := runtime.GOMAXPROCS(threads)
		for range 200 {
			tapes(t, example(), s, want...)
		}
		runtime.GOMAXPROCS(before)
	}
}

// What is started ends: behind the call none of its goroutines goes on.
func TestTapeLeavesNothingRunning(t *testing.T) {
	s, _ := crowd(t)
	before := runtime.NumGoroutine()
	for range 100 {
		report.Tape(example(), s)
		report.Tape(api.Policy{}, s)
	}
	// One that has told its line may still be on its last steps.
	for range 1000 {
		if runtime.NumGoroutine() <= before {
			return
		}
		time.Sleep(time.Millisecond)
	}
	t.Errorf("21.1: %d goroutines, %d ahead of the calls", runtime.NumGoroutine(), before)
}

// 21: of a State that no engine told the calls end, and do not panic, whatever it is.
func TestIllMade(t *testing.T) {
	book := api.Book{Net: [api.Accounts]int64{least, most, most, most, least, least, most, most, least, least, most, most}}
	odd := []api.Loan{
		{}, {ID: -1, Day: -5}, {ID: most, Day: most, Book: book}, {ID: least, Applied: least, Case: api.Case{Status: 99}},
		{ID: 1, Case: api.Case{Status: api.ChargedOff}, Book: book}, {ID: 1, Case: api.Case{Status: -1}, Carry: most, ChargedOff: least},
		{ID: 2, Book: api.Book{Net: [api.Accounts]int64{1: -5}}, Plan: []api.Instalment{{Due: most, Interest: most, Principal: most}, {Due: least}}},
		{ID: 3, Case: api.Case{Status: 1}, Book: api.Book{Net: [api.Accounts]int64{1: 5}}, Plan: []api.Instalment{{Due: 9, Interest: 1, Principal: 1, Marked: true}}},
	}
	for _, p := range append(refused(), example()) {
		for _, s := range []api.State{{Loans: odd}, {Today: most, Loans: slices.Repeat(odd, 500)}} {
			report.Tape(p, s)
			report.Roll(p, s, s)
			report.Roll(p, s, api.State{})
			report.Allowance(p, s, [5]int64{10000, 10000, 10000, 10000, 10000})
			report.Trial(s)
		}
		for _, l := range odd {
			report.Class(p, l)
		}
	}
}
