package bureau_test

import (
	"runtime"
	"slices"
	"sync"
	"testing"
	"time"
	"weak"

	"arrears/api"
	"arrears/bureau"
)

// guarded lays a list into the midst of a longer memory, and hands out that memory too.
func guarded[T any](list []T, guard T) (inside, all []T) {
	all = slices.Concat([]T{guard, guard}, list, slices.Repeat([]T{guard}, 16))
	return all[2 : 2+len(list)], all
}

// overwrite writes over a list and its spare room.
func overwrite[T any](list []T, with T) {
	list = list[:cap(list)]
	for i := range list {
		list[i] = with
	}
}

// answers are what all calls answer, so that they can be compared.
type answers struct {
	code, profile string
	whyProfile    api.Errno
	file          []byte
	whyFile       api.Errno
	count         int
	owed, pastDue int64
	ok            bool
}

func ask(p api.Policy, ops []api.Op, l api.Loan, id, months int, text []byte) answers {
	var a answers
	a.code = bureau.Code(p, l)
	a.profile, a.whyProfile = bureau.Profile(p, ops, id, months)
	a.file, a.whyFile = bureau.File(p, ops)
	a.count, a.owed, a.pastDue, a.ok = bureau.Read(text)
	return a
}

func (a answers) same(b answers) bool {
	filed := slices.Equal(a.file, b.file)
	a.file, b.file = nil, nil
	return filed && a.code == b.code && a.profile == b.profile && a.whyProfile == b.whyProfile && a.whyFile == b.whyFile &&
		a.count == b.count && a.owed == b.owed && a.pastDue == b.pastDue && a.ok == b.ok
}

// 24: what is handed in is left as it is, what lies around it too.
func TestGivenListsStay(t *testing.T) {
	holidays, aroundDays := guarded([]int{first + 10, first + 31}, 77)
	text, aroundText := guarded([]byte(good()), 'x')
	plan, aroundPlan := guarded(late(50).Plan, api.Instalment{Due: 77})
	l := late(50)
	l.Plan = plan
	for _, list := range [][]api.Op{history(), {opened(), {}, days(61), days(60)}, nil} {
		given, aroundOps := guarded(list, pay(7, 77))
		daysBefore, opsBefore, textBefore, planBefore := slices.Clone(aroundDays), slices.Clone(aroundOps), slices.Clone(aroundText), slices.Clone(aroundPlan)
		for _, p := range append(refused(), with(func(p *api.Policy) { p.Holidays = holidays })) {
			for months := range 14 {
				ask(p, given, l, 7, months, text)
				ask(p, given, l, 8, months, text[:months])
			}
		}
		if !slices.Equal(aroundDays, daysBefore) || !slices.Equal(aroundOps, opsBefore) || !slices.Equal(aroundText, textBefore) || !slices.Equal(aroundPlan, planBefore) {
			t.Errorf("24: lists that were handed in are changed")
		}
	}
}

// 24: answers are new memory, their spare room too; what becomes of what was handed in is not seen in them.
func TestAnswersAreNew(t *testing.T) {
	given := history()
	one, _ := bureau.File(example(), given)
	other, _ := bureau.File(example(), given)
	overwrite(one, 'x')
	overwrite(given, api.Op{})
	if string(other) != hOf() {
		t.Errorf("24.3: files share memory: %q", other)
	}
}

// letGo hands memory of its own to the calls, and tells by weak pointers whether it is still held.
func letGo() (answers, weak.Pointer[[3]api.Op], weak.Pointer[[2]int], weak.Pointer[[12]api.Instalment], weak.Pointer[[100]byte]) {
	list, holidays, plan, text := new([3]api.Op), new([2]int), new([12]api.Instalment), new([100]byte)
	copy(list[:], history())
	holidays[0], holidays[1] = first+10, first+20
	l := late(50)
	copy(plan[:], l.Plan)
	l.Plan = plan[:]
	p := with(func(p *api.Policy) { p.Holidays = holidays[:] })
	return ask(p, list[:], l, 7, 4, text[:copy(text[:], hOf())]), weak.Make(list), weak.Make(holidays), weak.Make(plan), weak.Make(text)
}

// 24: nothing that is handed in is kept, while the answers live.
func TestGivenMemoryIsLetGo(t *testing.T) {
	a, list, holidays, plan, text := letGo()
	kept := func() bool {
		return list.Value() != nil || holidays.Value() != nil || plan.Value() != nil || text.Value() != nil
	}
	for turn := 0; turn < 1000 && kept(); turn++ {
		time.Sleep(time.Millisecond)
		runtime.GC()
	}
	if kept() {
		t.Errorf("24: memory that was handed in is kept")
	}
	if want := (answers{code: "2", profile: "3210", file: []byte(hOf()), count: 1, owed: 123000, pastDue: 30000, ok: true}); !a.same(want) {
		t.Errorf("24: the answers are %+v, want %+v", a, want)
	}
}

// 24: nil and empty say the same.
func TestNilIsEmpty(t *testing.T) {
	p := with(func(p *api.Policy) { p.Holidays = []int{} })
	for _, list := range [][]api.Op{nil, history()} {
		want := ask(example(), list, lent(), 7, 4, nil)
		if got := ask(p, append([]api.Op{}, list...), lent(), 7, 4, []byte{}); !got.same(want) {
			t.Errorf("24: of %s the answers are %+v, want %+v", brief(list), got, want)
		}
	}
	if none, _ := bureau.File(example(), []api.Op{days(3)}); string(none) != empty("2021-07-31") {
		t.Errorf("24.3: a file without loans is %q", none)
	}
}

// 24: nothing is kept from call to call: asked in any order, and at the same time, every call answers the same; and all that the calls began has ended.
func TestNothingIsKept(t *testing.T) {
	running := runtime.NumGoroutine()
	type question struct {
		p          api.Policy
		ops        []api.Op
		l          api.Loan
		id, months int
		text       []byte
	}
	questions := []question{
		{example(), history(), lent(), 7, 4, []byte(hOf())},
		{example(), append(history(), open(8, 5000, 9000, 2, 0), days(33)), late(100), 8, 24, []byte(good())},
		{with(func(p *api.Policy) { p.LateMin, p.Grace = 700, 3 }), history(), late(40), 7, 25, nil},
		{api.Policy{}, history(), lent(), 7, 4, []byte("BUREAU")},
		{example(), []api.Op{opened()}, late(200), 7, 1, []byte(empty("2021-10-31"))},
	}
	var want []answers
	for _, q := range questions {
		want = append(want, ask(q.p, q.ops, q.l, q.id, q.months, q.text))
	}
	var group sync.WaitGroup
	for turn := range 8 {
		group.Go(func() {
			for i := range 60 {
				at := (i + turn) % len(questions)
				q := questions[at]
				if got := ask(q.p, q.ops, q.l, q.id, q.months, q.text); !got.same(want[at]) {
					t.Errorf("24: the answers are %+v, want %+v", got, want[at])
				}
			}
		})
	}
	group.Wait()
	for turn := 0; turn < 1000 && runtime.NumGoroutine() > running; turn++ {
		time.Sleep(time.Millisecond)
	}
	if now := runtime.NumGoroutine(); now > running {
		t.Errorf("24: %d goroutines are left", now-running)
	}
}
