package statement_test

import (
	"runtime"
	"slices"
	"sync"
	"testing"
	"time"
	"weak"

	"arrears/api"
	"arrears/statement"
)

// guarded lays a list into the midst of a longer memory, and hands out that memory too.
func guarded[T any](list []T, guard T) (inside, all []T) {
	all = slices.Concat([]T{guard, guard}, list, slices.Repeat([]T{guard}, 16))
	return all[2 : 2+len(list)], all
}

// overwrite writes over a list and its spare room.
func overwrite[T any](list []T, with T) {
	list = list[:cap(list)]
	for i := range list {
		list[i] = with
	}
}

// 22: what is handed in is left as it is, what lies around it too.
func TestGivenListsStay(t *testing.T) {
	holidays, aroundDays := guarded([]int{first + 10, first + 31}, 77)
	list, aroundOps := guarded(ops(), pay(7, 77))
	given, aroundMoves := guarded(these(), move(first, 2, api.Fees, 77))
	daysBefore, opsBefore, movesBefore := slices.Clone(aroundDays), slices.Clone(aroundOps), slices.Clone(aroundMoves)
	for _, p := range append(refused(), with(func(p *api.Policy) { p.Holidays = holidays })) {
		statement.Moves(p, list, 7)
		statement.Moves(p, list, 8)
	}
	for _, span := range [][2]int{{first, first + 42}, {first + 1, first + 42}, {1, 5}, {5, 1}, {first + 42, first + 42}, {0, 5}} {
		statement.Upto(given, span[0])
		statement.Within(given, span[0], span[1])
		statement.Lines(given, span[0], span[1])
	}
	if !slices.Equal(aroundDays, daysBefore) || !slices.Equal(aroundOps, opsBefore) || !slices.Equal(aroundMoves, movesBefore) {
		t.Errorf("22: lists that were handed in are changed")
	}
}

// 22: answers are new memory, their spare room too; what becomes of what was handed in is not seen in them.
func TestAnswersAreNew(t *testing.T) {
	list := ops()
	one, _ := statement.Moves(example(), list, 7)
	other, _ := statement.Moves(example(), list, 7)
	overwrite(one, api.Movement{})
	overwrite(list, api.Op{})
	if !slices.Equal(other, these()) {
		t.Errorf("22.1: movements share memory: %+v", other)
	}
	for _, span := range [][2]int{{first, first + 42}, {first + 42, first + 42}, {first, first}, {1, most}, {least, most}} {
		given := these()
		want := slices.Clone(statement.Within(given, span[0], span[1]))
		one, other := statement.Within(given, span[0], span[1]), statement.Within(given, span[0], span[1])
		overwrite(one, api.Movement{})
		if !slices.Equal(given, these()) {
			t.Errorf("22.3: an answer shares memory with what was handed in")
		}
		overwrite(given, api.Movement{})
		if !slices.Equal(other, want) {
			t.Errorf("22.3: movements share memory: %+v", other)
		}
	}
	given := these()
	want := linesOf(given, first, first+42)
	lines, _ := statement.Lines(given, first, first+42)
	rest, _ := statement.Lines(given, first, first+42)
	overwrite(lines, "overwritten")
	overwrite(given, api.Movement{})
	if !slices.Equal(rest, want) {
		t.Errorf("22.4: lines share memory: %q", rest)
	}
}

// answers are what all calls answer, so that they can be compared.
type answers struct {
	moves, within []api.Movement
	why           api.Errno
	book          api.Book
	fits          bool
	lines         []string
	told          bool
}

func ask(p api.Policy, list []api.Op, given []api.Movement, id, from, to int) answers {
	var a answers
	a.moves, a.why = statement.Moves(p, list, id)
	a.book, a.fits = statement.Upto(given, to)
	a.within = statement.Within(given, from, to)
	a.lines, a.told = statement.Lines(given, from, to)
	return a
}

func (a answers) same(b answers) bool {
	return slices.Equal(a.moves, b.moves) && a.why == b.why && a.book == b.book && a.fits == b.fits &&
		slices.Equal(a.within, b.within) && slices.Equal(a.lines, b.lines) && a.told == b.told
}

// letGo hands memory of its own to the calls, and tells by weak pointers whether it is still held.
func letGo() (answers, weak.Pointer[[6]api.Op], weak.Pointer[[3]api.Movement], weak.Pointer[[2]int]) {
	list, given, holidays := new([6]api.Op), new([3]api.Movement), new([2]int)
	copy(list[:], ops())
	copy(given[:], these())
	holidays[0], holidays[1] = first+10, first+20
	p := with(func(p *api.Policy) { p.Holidays = holidays[:] })
	return ask(p, list[:], given[:], 7, first, first+42), weak.Make(list), weak.Make(given), weak.Make(holidays)
}

// 22: nothing that is handed in is kept, while the answers live.
func TestGivenMemoryIsLetGo(t *testing.T) {
	a, list, given, holidays := letGo()
	for turn := 0; turn < 1000 && (list.Value() != nil || given.Value() != nil || holidays.Value() != nil); turn++ {
		time.Sleep(time.Millisecond)
		runtime.GC()
	}
	if list.Value() != nil || given.Value() != nil || holidays.Value() != nil {
		t.Errorf("22: memory that was handed in is kept")
	}
	if len(a.moves) != 3 || len(a.within) != 3 || len(a.lines) != 6 {
		t.Errorf("22: the answers are %+v", a)
	}
}

// 22: nil and empty say the same.
func TestNilIsEmpty(t *testing.T) {
	p := with(func(p *api.Policy) { p.Holidays = []int{} })
	want := ask(example(), nil, nil, 7, first, first+42)
	if got := ask(p, []api.Op{}, []api.Movement{}, 7, first, first+42); !got.same(want) {
		t.Errorf("22: of empty lists the answers are %+v, of nil %+v", got, want)
	}
	if got := ask(p, ops(), these(), 7, first, first+42); !got.same(ask(example(), ops(), these(), 7, first, first+42)) {
		t.Errorf("22: without holidays the answers are %+v", got)
	}
}

// 22: nothing is kept from call to call: asked in any order, and at the same time, every call answers the same.
func TestNothingIsKept(t *testing.T) {
	type question struct {
		p        api.Policy
		ops      []api.Op
		moves    []api.Movement
		id       int
		from, to int
	}
	questions := []question{
		{example(), ops(), these(), 7, first + 1, first + 42},
		{example(), append(ops(), open(8, 5000, 9000, 2, 0), days(3)), these()[1:], 8, 1, api.MaxDay},
		{api.Policy{}, ops(), []api.Movement{move(5, 9)}, 7, 5, 5},
		{anotherPolicy(), ops(), nil, 7, 9, 5},
	}
	var want []answers
	for _, q := range questions {
		want = append(want, ask(q.p, q.ops, q.moves, q.id, q.from, q.to))
	}
	var group sync.WaitGroup
	for turn := range 8 {
		group.Go(func() {
			for i := range 60 {
				at := (i + turn) % len(questions)
				q := questions[at]
				if got := ask(q.p, q.ops, q.moves, q.id, q.from, q.to); !got.same(want[at]) {
					t.Errorf("22: the answers are %+v, want %+v", got, want[at])
				}
			}
		})
	}
	group.Wait()
}

// anotherPolicy has other fees than the policy of the examples.
func anotherPolicy() api.Policy {
	return with(func(p *api.Policy) { p.LateMin, p.Grace = 700, 3 })
}
