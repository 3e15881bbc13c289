package backdate_test

import (
	"reflect"
	"runtime"
	"slices"
	"sync"
	"testing"
	"time"
	"weak"

	"arrears/api"
	"arrears/backdate"
)

// guarded lays a list into the midst of a longer memory, and hands out that memory too.
func guarded[T any](list []T, guard T) (inside, all []T) {
	all = slices.Concat([]T{guard, guard}, list, slices.Repeat([]T{guard}, 16))
	return all[2 : 2+len(list)], all
}

// overwrite writes over a list and its spare room.
func overwrite[T any](list []T, with T) {
	list = list[:cap(list)]
	for i := range list {
		list[i] = with
	}
}

// plain is a history in which nothing is left out.
func plain() []api.Op {
	return []api.Op{opened(), days(42), waive(7, 100), pay(7, 11400), days(5)}
}

// 23: what is handed in is left as it is, what lies around it too.
func TestGivenListsStay(t *testing.T) {
	for _, list := range [][]api.Op{history(), plain(), plain()[:1], {opened(), today(), {}}, nil} {
		holidays, aroundDays := guarded([]int{first + 10, first + 31}, 77)
		given, aroundOps := guarded(list, api.Op{Kind: api.OpPay, Loan: 7, Amount: 77})
		daysBefore, opsBefore := slices.Clone(aroundDays), slices.Clone(aroundOps)
		for _, p := range append(refused(), with(func(p *api.Policy) { p.Holidays = holidays })) {
			for day := first - 1; day <= first+48; day++ {
				for _, o := range []api.Op{pay(7, 10000), waive(7, 1500), pay(8, 5), days(1)} {
					ask(t, p, given, day, o)
				}
			}
		}
		if !slices.Equal(aroundDays, daysBefore) || !slices.Equal(aroundOps, opsBefore) {
			t.Errorf("23: lists that were handed in are changed: %+v, %v", aroundOps, aroundDays)
		}
	}
}

// 23: answers are new memory, their spare room too; what becomes of what was handed in is not seen in them.
func TestAnswersAreNew(t *testing.T) {
	for _, list := range [][]api.Op{history(), plain()} {
		for _, day := range []int{first, first + 31, first + 42} {
			given := slices.Clone(list)
			want := ask(t, example(), list, day, pay(7, 10000))
			spoiled, kept := ask(t, example(), given, day, pay(7, 10000)), ask(t, example(), given, day, pay(7, 10000))
			overwrite(spoiled.ops, api.Op{})
			overwrite(spoiled.loan.Plan, api.Instalment{})
			overwrite(spoiled.upset, 77)
			if !slices.Equal(given, list) {
				t.Errorf("23.1: an answer shares memory with what was handed in")
			}
			overwrite(given, api.Op{})
			if !kept.same(want) {
				t.Errorf("23: answers share memory: %+v, want %+v", kept, want)
			}
		}
	}
	change := book(0, 3, 1, 4, 2, -5, 3, -2)
	one, _ := backdate.Entries(change)
	overwrite(one, api.Entry{})
	settles(t, change, entry(0, 2, 3), entry(1, 2, 2), entry(1, 3, 2))
}

// 23: the places of Upset are a list of their own.
func TestUpsetIsNew(t *testing.T) {
	h := append(plain()[:2], waive(7, 1000), waive(7, 500))
	one, _ := backdate.Upset(example(), h, 738031, pay(7, 10000))
	other, _ := backdate.Upset(example(), h, 738031, pay(7, 10000))
	overwrite(one, 77)
	if !slices.Equal(other, []int{2, 3}) {
		t.Errorf("23.3: the places share memory: %v", other)
	}
}

// letGo hands memory of its own to the calls, and tells by weak pointers whether it is still held.
func letGo(t *testing.T) (answers, weak.Pointer[[5]api.Op], weak.Pointer[[2]int]) {
	list, holidays := new([5]api.Op), new([2]int)
	copy(list[:], plain())
	holidays[0], holidays[1] = first+10, first+20
	p := with(func(p *api.Policy) { p.Holidays = holidays[:] })
	return ask(t, p, list[:], 738031, pay(7, 10000)), weak.Make(list), weak.Make(holidays)
}

// 23: nothing that is handed in is kept, while the answers live.
func TestGivenMemoryIsLetGo(t *testing.T) {
	a, list, holidays := letGo(t)
	for turn := 0; turn < 1000 && (list.Value() != nil || holidays.Value() != nil); turn++ {
		time.Sleep(time.Millisecond)
		runtime.GC()
	}
	if list.Value() != nil || holidays.Value() != nil {
		t.Errorf("23: memory that was handed in is kept")
	}
	if len(a.ops) != 7 || len(a.upset) != 1 || len(a.loan.Plan) != 12 {
		t.Errorf("23: the answers are %+v", a)
	}
}

// 23: nil and empty say the same.
func TestNilIsEmpty(t *testing.T) {
	p := with(func(p *api.Policy) { p.Holidays = []int{} })
	for _, list := range [][]api.Op{nil, {}, plain(), history()} {
		want := ask(t, example(), append([]api.Op(nil), list...), 738031, pay(7, 10000))
		if got := ask(t, p, append([]api.Op{}, list...), 738031, pay(7, 10000)); !got.same(want) {
			t.Errorf("23: of %+v the answers are %+v, want %+v", list, got, want)
		}
	}
}

// 23: nothing is kept from call to call: asked in any order, and at the same time, every call answers the same.
func TestNothingIsKept(t *testing.T) {
	type question struct {
		p   api.Policy
		ops []api.Op
		day int
		o   api.Op
	}
	questions := []question{
		{example(), history(), 738031, pay(7, 10000)},
		{example(), plain(), 738031, pay(7, 10000)},
		{example(), append(plain(), open(8, 5000, 9000, 2, 0), days(3)), 738049, pay(8, 77)},
		{with(func(p *api.Policy) { p.LateMin, p.Grace = 700, 3 }), plain(), 738042, waive(7, 300)},
		{api.Policy{}, plain(), 738042, waive(7, 300)},
		{example(), plain(), 738048, waive(7, 300)},
	}
	var want []answers
	for _, q := range questions {
		want = append(want, ask(t, q.p, q.ops, q.day, q.o))
	}
	changes := []api.Book{book(0, 3, 1, 4, 2, -5, 3, -2), {}, book(0, 5), want[0].change}
	var entries [][]api.Entry
	for _, change := range changes {
		moves, _ := backdate.Entries(change)
		entries = append(entries, moves)
	}
	var group sync.WaitGroup
	for turn := range 8 {
		group.Go(func() {
			for i := range 60 {
				at := (i + turn) % len(questions)
				q := questions[at]
				if got := ask(t, q.p, q.ops, q.day, q.o); !got.same(want[at]) {
					t.Errorf("23: the answers are %+v, want %+v", got, want[at])
				}
				at = (i + turn) % len(changes)
				if moves, _ := backdate.Entries(changes[at]); !reflect.DeepEqual(moves, entries[at]) {
					t.Errorf("23.4: the moves are %+v, want %+v", moves, entries[at])
				}
			}
		})
	}
	group.Wait()
}
