package servicer_test

import (
	"fmt"
	"math/rand"
	"testing"

	"arrears/api"
)

// writing is lines in which everything is done that writes.
func writing() []string {
	return []string{
		"open 7 1200.00 900 12 equal", "open 8 10.00 0 1 level", "day 37", "tick 2", "fate 2d1x3", "pay 8 10.00", "tick 1", "tick 2",
		"compact", "promise 7 50.00 9", "pay 7 50.00", "return 7", "restart", "pay 9 1.00", "today", "tick 5", "compact", "waive 7 1.00",
		"compact", "restart", "restructure 7 6 100", "pay 8 1.00", "refund 8 1.00", "notices", "day 60", "tick 20", "restart",
	}
}

// writesOf is how many writes these lines make if nothing goes down.
func writesOf(t *testing.T, p api.Policy, lines []string) int {
	s, m := begin(t, p), newModel(t, p)
	for _, line := range lines {
		s.holds(m, op(t, line))
	}
	return s.s.Writes() - 2
}

// 19.9, 19.13, 19.14: the disk goes down at every write, with any number of pending bytes kept, and again in the recovering behind it: all is the model's.
func TestEveryWrite(t *testing.T) {
	for _, every := range []int{0, 1, 4} {
		t.Run(fmt.Sprint("SnapEvery ", every), func(t *testing.T) {
			t.Parallel()
			everyWrite(t, snapping(every))
		})
	}
}

func everyWrite(t *testing.T, p api.Policy) {
	lines := writing()
	total := writesOf(t, p, lines)
	if total < 35 {
		t.Fatalf("the lines make %d writes", total)
	}
	for after := 1; after <= total; after++ {
		for _, keep := range []int{0, 1, 8, 11, 12, 13, 14, 15, 17, 20, 5000} {
			for again := range 3 {
				s, m := begin(t, p), newModel(t, p)
				s.holds(m, api.Op{Kind: api.OpCrash, Count: after, Days: keep})
				if again > 0 {
					s.holds(m, api.Op{Kind: api.OpCrash, Count: again, Days: keep})
				}
				for _, line := range lines {
					s.holds(m, op(t, line))
				}
			}
		}
	}
}

// 19.9: a compaction that is cut off with every number of bytes of its header kept: it has been done only if all were.
func TestEveryByteOfASnapshot(t *testing.T) {
	for after := 1; after <= 3; after++ {
		for keep := 0; ; keep++ {
			s, m := begin(t, example()), newModel(t, example())
			for _, line := range []string{"open 7 1200.00 900 3 equal", "compact", "day 37", fmt.Sprintf("crash %d %d", after, keep), "compact", "pay 7 1.00", "restart"} {
				s.holds(m, op(t, line))
			}
			if keep > len(s.files()[0])+len(s.files()[1]) {
				break
			}
		}
	}
}

// 19.9: an operation that crashes in its own compaction has been done, and so has a tick.
func TestDoneAheadOfItsCompaction(t *testing.T) {
	for after := 3; after <= 4; after++ {
		s := begin(t, snapping(1))
		s.does("open 7 1.00 0 1 equal", "restart")
		s.does(fmt.Sprintf("crash %d 0", after))
		s.says("pay 7 1.00", "error 190 1 1 2")
		s.says("loan 7", "ok 9 0 0 0 0 0 0 0 0 0 0 0 0 0 0 0 0 0 0 0 0")
		s.does("tick 2", "restart", fmt.Sprintf("crash %d 5", after))
		s.says("tick 1", "error 190 1 1 3")
		s.says("notices", "ok 1 1 1")
	}
}

// 19.9: how often the disk went down is told, up to as many crashes as may wait; then it is up.
func TestManyCrashes(t *testing.T) {
	s := begin(t, example())
	s.does("open 7 10.00 0 1 equal")
	for range 64 {
		s.does("crash 1 3")
	}
	// The append goes down with three bytes kept; the cut of these goes down 63 times.
	s.says("pay 7 1.00", "error 190 64 1 1")
	s.says("pay 7 1.00", "ok 0 0 100 0 0 1")
	s.says("restart", "ok 1 2 0")
}

// 19.9: a restart line under which the disk goes down has crashed too.
func TestRestartCrashes(t *testing.T) {
	s := begin(t, example())
	s.does("open 7 10.00 0 1 equal", "compact", "crash 1 0", "crash 1 0")
	s.says("restart", "error 190 2 0 2")
	s.says("restart", "ok 2 0 0")
	s.says("today", "ok 738000 1")
}

// 19.9: crashes wait for writes: queries, refusals and lines of the outer world do not meet them, nor do ticks that bring nothing.
func TestCrashesWait(t *testing.T) {
	s := begin(t, example())
	s.does("open 7 1.00 0 1 equal", "pay 7 1.00", "restart", "crash 1 0")
	s.does("today", "loan 7", "notices", "fate 1", "tick 2", "restart")
	s.refuses(api.ErrNoLoan, op(t, "pay 9 1.00"))
	s.refuses(api.ErrArg, op(t, "tick 0"), op(t, "day 61"))
	// The acknowledgement comes at tick 3. What a tick handed over is on its way, whatever crashes behind it: the second sending's acknowledgement comes at tick 4.
	s.says("tick 2", "error 190 1 2 1")
	s.says("notices", "ok 1 0 1")
	s.says("tick 1", "ok 0 1 4")
	s.says("notices", "ok 1 1 1")
}

// 19.9: behind a crash in the midst of ticks the rest of the ticks is not done.
func TestCrashInTheMidstOfTicks(t *testing.T) {
	for keep, want := range map[int]string{0: "ok 2 0 2", 1000: "ok 2 1 2"} {
		s := begin(t, example())
		s.does("open 7 1.00 0 1 equal", "open 8 1.00 0 1 equal", "pay 7 1.00", "pay 8 1.00", "fate 13", fmt.Sprintf("crash 2 %d", keep))
		r := s.s.Do(op(t, "tick 200"))
		if r.Err != api.ErrCrashed || r.Nums[0] != 1 {
			t.Fatalf("19.9: tick 200 = %v", r)
		}
		s.says("notices", want)
		for _, p := range s.s.Pending() {
			if p.Attempts != 0 || p.Next != 3 {
				t.Errorf("19.14: behind the crash at tick 3 the box holds %+v", p)
			}
		}
	}
}

// changes tells whether a kind changes the portfolio.
func changes(kind int) bool { return kind >= api.OpOpen && kind <= api.OpDay }

// W2: behind each line the portfolio is that of a servicer whose disk never goes down, to which all lines that were answered OK came, and some of those that crashed, whole.
func TestNothingHalfDone(t *testing.T) {
	t.Parallel()
	random := rand.New(rand.NewSource(1920))
	done, lost := 0, 0
	for range 300 {
		p := anyPolicy(random)
		s, steady := begin(t, p), begin(t, p)
		for range 120 {
			o := anyOp(random)
			r := s.s.Do(o)
			if changes(o.Kind) && r.Err == api.OK {
				if want := steady.s.Do(o); !sameReply(r, want) {
					t.Fatalf("W2: Do(%+v) = %v, and without crashes %v", o, r, want)
				}
			}
			got := unmarked(s.s.State())
			if sameState(got, steady.s.State()) {
				if r.Err == api.ErrCrashed && changes(o.Kind) {
					lost++
				}
				continue
			}
			if r.Err != api.ErrCrashed || !changes(o.Kind) {
				t.Fatalf("W2: %+v is answered %v, and leaves\n%+v, not\n%+v", o, r, got, steady.s.State())
			}
			done++
			if r := steady.s.Do(o); r.Err != api.OK || !sameState(got, steady.s.State()) {
				t.Fatalf("W2: %+v crashed and is done by half:\n%+v, not\n%+v", o, got, steady.s.State())
			}
		}
	}
	if done < 300 || lost < 300 {
		t.Errorf("few crashes: %d done, %d lost", done, lost)
	}
}

// 19.13: a new servicer's writes, line by line.
func TestWrites(t *testing.T) {
	s := begin(t, example())
	writes := 2
	for _, x := range []struct {
		line string
		more int
	}{
		{"open 7 1.00 0 1 equal", 2}, {"today", 0}, {"pay 7 1.00", 2}, {"tick 2", 0}, {"tick 1", 2}, {"tick 9", 0},
		{"compact", 2}, {"compact", 3}, {"restart", 1}, {"restart", 0}, {"day 1", 2}, {"fate x", 0}, {"calm", 0}, {"crash 9 9", 0}, {"calm", 0}, {"notices", 0},
	} {
		s.does(x.line)
		if writes += x.more; s.s.Writes() != writes {
			t.Fatalf("19.13: behind %q there are %d writes, want %d", x.line, s.s.Writes(), writes)
		}
	}
	// Those that crash count too: the append, a cut, the cut again, the stale file's, and it again.
	s.does("compact", "crash 1 4", "crash 1 0", "crash 2 0")
	writes = s.s.Writes()
	s.says("day 1", "error 190 3 0 4")
	if got := s.s.Writes() - writes; got != 5 {
		t.Errorf("19.13: the crashes make %d writes", got)
	}
}
