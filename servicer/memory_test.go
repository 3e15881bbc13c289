package servicer_test

import (
	"bytes"
	"runtime"
	"slices"
	"testing"
	"weak"

	"arrears/api"
	"arrears/servicer"
)

// guarded lays bytes into the midst of a longer memory, and hands out that memory too.
func guarded(text []byte) (inside, all []byte) {
	all = slices.Concat(bytes.Repeat([]byte{0xa5}, 8), text, bytes.Repeat([]byte{0xa5}, 64))
	return all[8 : 8+len(text)], all
}

// overwrite writes over a list and its spare room.
func overwrite[T any](list []T, with T) {
	list = list[:cap(list)]
	for i := range list {
		list[i] = with
	}
}

// spoilState writes over all the memory of a portfolio that was answered.
func spoilState(s api.State) {
	for _, l := range s.Loans {
		overwrite(l.Plan, api.Instalment{Due: -1, Interest: -1, Principal: -1, Marked: true})
	}
	overwrite(s.Loans, api.Loan{ID: -1})
	overwrite(s.Notices, api.Notice{ID: -1})
}

// spoilAccepted writes over all the memory of what the receiver took.
func spoilAccepted(list []api.Accepted) {
	for _, a := range list {
		overwrite(a.Body, '#')
	}
	overwrite(list, api.Accepted{ID: -1})
}

// spoilPending writes over all the memory of what is still sent.
func spoilPending(list []api.Pending) {
	for _, p := range list {
		overwrite(p.Body, '#')
	}
	overwrite(list, api.Pending{ID: -1})
}

// lived is a servicer in the midst of a life.
func lived(t *testing.T, p api.Policy) *story {
	s := begin(t, p)
	s.does("open 7 1200.00 900 12 equal", "open 3 500.00 0 2 level", "open 5 1.00 0 1 equal", "pay 5 1.00", "tick 3", "day 37", "fate xx1", "tick 1", "pay 7 10.00")
	return s
}

// What is answered is new memory: whoever writes over it changes nothing that is told later, and nothing that is done.
func TestAnswersAreNewMemory(t *testing.T) {
	for _, p := range []api.Policy{example(), snapping(1), snapping(3)} {
		s, calm := lived(t, p), lived(t, p)
		for _, line := range []string{"pay 7 5.00", "day 3", "loan 7", "plan 3", "books", "aging", "notices", "timers", "today", "tick 2", "restart", "compact", "crash 1 7", "day 1", "return 7", "tick 9", "day 30"} {
			spoilState(s.s.State())
			spoilAccepted(s.s.Accepted())
			spoilPending(s.s.Pending())
			a, b := s.s.Files()
			overwrite(a, '#')
			overwrite(b, '#')
			got, want := s.s.Do(op(t, line)), calm.s.Do(op(t, line))
			if !sameReply(got, want) {
				t.Fatalf("%q is answered %v, want %v", line, got, want)
			}
			overwrite(got.Nums, -1)
			if !sameWhole(s.whole(), calm.whole()) {
				t.Fatalf("behind %q what is told has changed with what was answered", line)
			}
		}
	}
}

// No two lists of one answer share memory, their spare room neither.
func TestListsOfAnAnswer(t *testing.T) {
	s := lived(t, example())
	want := s.s.State()
	for i := range want.Loans {
		got := s.s.State()
		for j, l := range got.Loans {
			if j != i {
				overwrite(l.Plan, api.Instalment{Due: -1})
			}
		}
		overwrite(got.Notices, api.Notice{ID: -1})
		if !sameLoan(got.Loans[i], want.Loans[i]) {
			t.Errorf("19: the plan of a loan shares memory with another list")
		}
	}
	pending := s.s.Pending()
	for i := range pending {
		got := s.s.Pending()
		for j, p := range got {
			if j != i {
				overwrite(p.Body, '#')
			}
		}
		if !bytes.Equal(got[i].Body, pending[i].Body) {
			t.Errorf("19: the bytes of a notice share memory with another's")
		}
	}
	a, b := s.s.Files()
	before := bytes.Clone(b)
	overwrite(a, '#')
	if !bytes.Equal(b, before) {
		t.Errorf("19: the two files share memory")
	}
}

// The replies of Play share no memory.
func TestRepliesAreNewMemory(t *testing.T) {
	text := []byte("today\ntoday\npay 1\npay 1\nopen 1 1.00 0 1 equal\nnotices\nnotices\n")
	want, _ := servicer.Play(example(), text)
	for i := range want {
		got, _ := servicer.Play(example(), text)
		for j, r := range got {
			if j != i {
				overwrite(r.Nums, -7)
			}
		}
		if !sameReply(got[i], want[i]) {
			t.Errorf("19.11: the reply %d shares memory with another", i)
		}
	}
}

// Bytes that are handed in stay as they are, what lies around them too, and are not kept.
func TestGivenBytes(t *testing.T) {
	made := lived(t, example())
	made.does("compact", "day 1")
	first, second := made.s.Files()
	for _, torn := range []int{0, 1} {
		a, allA := guarded(first)
		b, allB := guarded(second[:len(second)-torn])
		beforeA, beforeB := bytes.Clone(allA), bytes.Clone(allB)
		s, calm := resumed(t, example(), a, b), resumed(t, example(), bytes.Clone(a), bytes.Clone(b))
		s.does("pay 7 1.00", "compact", "compact", "tick 5", "restart")
		calm.does("pay 7 1.00", "compact", "compact", "tick 5", "restart")
		if !bytes.Equal(allA, beforeA) || !bytes.Equal(allB, beforeB) {
			t.Errorf("19.15: Resume changes the bytes that it is handed")
		}
		overwrite(allA, '#')
		overwrite(allB, '#')
		s.does("day 1", "restart")
		calm.does("day 1", "restart")
		if !sameWhole(s.whole(), calm.whole()) {
			t.Errorf("19.15: Resume keeps the bytes that it is handed")
		}
	}
	text, all := guarded([]byte("open 1 1.00 0 1 equal\nfate xd1\npay 1\nday 40\ntick 9\n# remark"))
	before := bytes.Clone(all)
	replies, _ := servicer.Play(example(), text)
	if servicer.Text(example(), text); !bytes.Equal(all, before) {
		t.Errorf("19.11: Play changes the text that it is handed")
	}
	kept := slices.Clone(replies)
	overwrite(all, '#')
	if !slices.EqualFunc(replies, kept, sameReply) {
		t.Errorf("19.11: Play keeps the text that it is handed")
	}
}

// The memory that is handed in may go when the call is over: files and holidays.
func TestGivenMemoryIsLetGo(t *testing.T) {
	a, b := lived(t, example()).s.Files()
	s, file, days := letGo(t, a, b)
	runtime.GC()
	if file.Value() != nil || days.Value() != nil {
		t.Errorf("19.15: Resume keeps the memory that it is handed")
	}
	s.does("day 1")
}

func letGo(t *testing.T, a, b []byte) (*story, weak.Pointer[[1 << 16]byte], weak.Pointer[[2]int]) {
	file, days := new([1 << 16]byte), &[2]int{5, 9}
	copy(file[:], a)
	s := resumed(t, with(func(p *api.Policy) { p.Holidays = days[:] }), file[:len(a)], b)
	s.p.Holidays = nil
	return s, weak.Make(file), weak.Make(days)
}

// The policy's holidays are not changed and not kept: what becomes of them later is seen nowhere, behind a restart neither.
func TestGivenHolidays(t *testing.T) {
	// The loan would be due on 738031, a Sunday; the Monday behind it is a holiday.
	days := []int{738032, 738033}
	p := with(func(p *api.Policy) { p.Rule, p.Holidays = api.RuleFollowing, days[:1:2] })
	s := begin(t, p)
	a, b := s.s.Files()
	u := resumed(t, p, a, b)
	if !slices.Equal(days, []int{738032, 738033}) {
		t.Errorf("19.10: New or Resume changes the holidays")
	}
	days[0] = 738040
	for _, x := range []*story{s, u} {
		x.says("open 7 1.00 0 1 equal", "ok 1 738033 100")
		x.does("restart")
		x.says("open 8 1.00 0 1 equal", "ok 1 738033 100")
		x.does("crash 1 0")
		x.says("day 1", "error 190 1 2 1")
		x.says("open 9 1.00 0 1 equal", "ok 1 738033 100")
	}
}
