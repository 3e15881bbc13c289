package report_test

import (
	"runtime"
	"slices"
	"sync"
	"testing"
	"time"
	"weak"

	"arrears/api"
	"arrears/report"
)

// guarded lays a list into the midst of a longer memory, and hands out that memory too.
func guarded[T any](list []T, guard T) (inside, all []T) {
	all = slices.Concat([]T{guard, guard}, list, slices.Repeat([]T{guard}, 16))
	return all[2 : 2+len(list)], all
}

// overwrite writes over a list and its spare room.
func overwrite[T any](list []T, with T) {
	list = list[:cap(list)]
	for i := range list {
		list[i] = with
	}
}

// sameLoan compares loans.
func sameLoan(a, b api.Loan) bool {
	return a.ID == b.ID && a.Terms == b.Terms && slices.Equal(a.Plan, b.Plan) && a.Book == b.Book && a.Case == b.Case &&
		a.Day == b.Day && a.Carry == b.Carry && a.Applied == b.Applied && a.Last == b.Last && a.HasLast == b.HasLast &&
		a.ChargedOff == b.ChargedOff && a.Trace == b.Trace
}

// asked are the answers of all calls that are asked of a portfolio, so that they can be compared.
type asked struct {
	tape    []string
	classes []int
	roll    [7][7]int
	amounts [5]int64
	trial   [2]int64
}

func ask(p api.Policy, s api.State) asked {
	var a asked
	a.tape = report.Tape(p, s)
	for _, l := range s.Loans {
		a.classes = append(a.classes, report.Class(p, l))
	}
	a.roll = report.Roll(p, s, s)
	a.amounts, _ = report.Allowance(p, s, [5]int64{100, 200, 500, 1000, 2000})
	a.trial[0], a.trial[1], _ = report.Trial(s)
	return a
}

func (a asked) same(b asked) bool {
	return slices.Equal(a.tape, b.tape) && slices.Equal(a.classes, b.classes) && a.roll == b.roll && a.amounts == b.amounts && a.trial == b.trial
}

// What is handed in is left as it is, what lies around it too.
func TestGivenListsStay(t *testing.T) {
	p, s := everyStatus(t)
	var plans, plansBefore [][]api.Instalment
	for i, l := range s.Loans {
		plan, around := guarded(l.Plan, api.Instalment{Due: 7, Interest: 7, Principal: 7})
		s.Loans[i].Plan = plan
		plans, plansBefore = append(plans, around), append(plansBefore, slices.Clone(around))
	}
	loans, aroundLoans := guarded(s.Loans, api.Loan{ID: 77})
	notices, aroundNotices := guarded(s.Notices, api.Notice{ID: 77})
	holidays, aroundDays := guarded([]int{738062, 738092}, 77)
	p.Holidays = holidays
	s = api.State{Today: s.Today, Loans: loans, Notices: notices}
	loansBefore, noticesBefore, daysBefore := slices.Clone(aroundLoans), slices.Clone(aroundNotices), slices.Clone(aroundDays)
	for _, p := range append(refused(), p) {
		ask(p, s)
	}
	if !slices.EqualFunc(aroundLoans, loansBefore, sameLoan) || !slices.Equal(aroundNotices, noticesBefore) || !slices.Equal(aroundDays, daysBefore) {
		t.Errorf("21: lists that were handed in are changed")
	}
	for i := range plans {
		if !slices.Equal(plans[i], plansBefore[i]) {
			t.Errorf("21: a plan that was handed in is changed: %v", plans[i])
		}
	}
}

// The lines are new memory, their spare room too; what becomes of what was handed in is not seen in them.
func TestAnswersAreNew(t *testing.T) {
	p, s := everyStatus(t)
	want := slices.Clone(report.Tape(p, s))
	first, second := report.Tape(p, s), report.Tape(p, s)
	overwrite(first, "overwritten")
	for i := range s.Loans {
		overwrite(s.Loans[i].Plan, api.Instalment{})
	}
	overwrite(s.Loans, api.Loan{})
	if !slices.Equal(second, want) {
		t.Errorf("21.1: lines share memory: %q, want %q", second, want)
	}
}

// letGo hands memory of its own to the calls, and tells by weak pointers whether it is still held.
func letGo(t *testing.T) (asked, weak.Pointer[[32]api.Loan], weak.Pointer[[120]api.Instalment]) {
	p, s := everyStatus(t)
	loans, plan := new([32]api.Loan), new([120]api.Instalment)
	count := copy(loans[:], s.Loans)
	rows := copy(plan[:], loans[0].Plan)
	loans[0].Plan = plan[:rows]
	return ask(p, api.State{Today: s.Today, Loans: loans[:count]}), weak.Make(loans), weak.Make(plan)
}

// Nothing that is handed in is kept, while the answers live.
func TestGivenMemoryIsLetGo(t *testing.T) {
	answers, loans, plan := letGo(t)
	// A goroutine that has told its line may still be on its last steps, with the loan that it was handed.
	for turn := 0; turn < 1000 && (loans.Value() != nil || plan.Value() != nil); turn++ {
		time.Sleep(time.Millisecond)
		runtime.GC()
	}
	if loans.Value() != nil || plan.Value() != nil {
		t.Errorf("21: memory that was handed in is kept")
	}
	if len(answers.tape) != 9 {
		t.Errorf("21.1: the tape is %q", answers.tape)
	}
}

// nil and empty say the same.
func TestNilIsEmpty(t *testing.T) {
	p, s := everyStatus(t)
	want := ask(p, s)
	for _, none := range [][]api.Notice{nil, {}} {
		for _, days := range [][]int{nil, {}} {
			p.Holidays, s.Notices = days, none
			if got := ask(p, s); !got.same(want) {
				t.Errorf("21: the answers are %v, want %v", got, want)
			}
		}
	}
	nothing := ask(p, api.State{})
	if got := ask(p, api.State{Loans: []api.Loan{}}); !got.same(nothing) {
		t.Errorf("21: of an empty list the answers are %v, of nil %v", got, nothing)
	}
}

// Nothing is kept from call to call: asked in any order, and at the same time, every call answers the same.
func TestNothingIsKept(t *testing.T) {
	p, s := everyStatus(t)
	other := late(t)
	want, wantOther, wantNone := ask(p, s), ask(example(), other), ask(api.Policy{}, s)
	var group sync.WaitGroup
	for turn := range 8 {
		group.Go(func() {
			for i := range 60 {
				switch (i + turn) % 4 {
				case 0:
					if got := ask(p, s); !got.same(want) {
						t.Errorf("21: the answers are %v, want %v", got, want)
					}
				case 1:
					if got := ask(example(), other); !got.same(wantOther) {
						t.Errorf("21: the answers are %v, want %v", got, wantOther)
					}
				case 2:
					if got := ask(api.Policy{}, s); !got.same(wantNone) {
						t.Errorf("21: the answers are %v, want %v", got, wantNone)
					}
				default:
					for _, letter := range samples() {
						readsAsModel(t, letter)
						readsNone(t, letter+".")
					}
				}
			}
		})
	}
	group.Wait()
}
