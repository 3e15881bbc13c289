package lockbox_test

import (
	"fmt"
	"math/rand"
	"slices"
	"testing"

	"arrears/api"
	"arrears/lockbox"
)

// cutOff tells whether a posting was: then the last of its replies says so, and none ahead of it does.
func (w *shop) cutOff(replies []api.Reply) bool {
	w.t.Helper()
	for i, r := range replies {
		if r.Err == api.ErrCrashed && i < len(replies)-1 {
			w.t.Fatalf("20.7: the posting goes on behind a crash: %v", replies)
		}
	}
	return replies[len(replies)-1].Err == api.ErrCrashed
}

// postsUntilDone posts a file again and again, with more crashes armed ahead of each time, until none cuts it off; and then once more, which changes nothing.
func (w *shop) postsUntilDone(file string, arm func()) int {
	w.t.Helper()
	times := 1
	for arm(); w.cutOff(w.posts(file)); arm() {
		times++
	}
	w.does("calm")
	before := w.whole()
	for _, r := range w.posts(file) {
		if r.Err == api.OK || r.Err == api.ErrCrashed {
			w.t.Fatalf("20.10: posted once more, an item is answered %d", r.Err)
		}
	}
	if w.whole() != before {
		w.t.Fatalf("20.10: posted once more, the file changes something")
	}
	return times
}

// once is the portfolio behind a file's operations done once, without any crash.
func (w *shop) once(b api.Batch) api.State {
	for _, op := range lockbox.Ops(b) {
		w.s.Do(op)
	}
	return w.s.State()
}

// 20.10: the disk goes down at every write of a posting, with many numbers of bytes kept, and again in the recovering behind it.
func TestEveryWrite(t *testing.T) {
	lines := append(twoLoans(), "open 8 10.00 0 1 equal", "day 37")
	// Items of one loan behind one another and apart, a loan that is not there, and one that a payment closes.
	b := api.Batch{Day: first + 37, Number: 12, Items: []api.Item{pay(7, 10500), pay(7, 10500), pay(1, 1), pay(8, 1050), pay(450123, 5), pay(8, 300), pay(7, 1)}}
	file := modelFormat(b)
	for _, every := range []int{0, 1, 3} {
		calm := open(t, rules(every), lines...)
		writes := calm.s.Writes()
		want := calm.once(b)
		writes = calm.s.Writes() - writes
		if writes < 12 {
			t.Fatalf("the file makes %d writes", writes)
		}
		for after := 1; after <= writes; after++ {
			for _, keep := range []int{0, 1, 8, 12, 16, 20, 22, 23, 24, 25, 30, 5000} {
				for again := range 3 {
					w := open(t, rules(every), lines...)
					w.does(fmt.Sprintf("crash %d %d", after, keep))
					if again > 0 {
						w.does(fmt.Sprintf("crash %d %d", again, keep))
					}
					if times := w.postsUntilDone(file, func() {}); times < 2 {
						t.Fatalf("20.10: a crash at write %d cuts nothing off", after)
					}
					if got := w.s.State(); !sameState(got, want) {
						t.Fatalf("20.10: behind a crash at write %d with %d bytes kept the portfolio is\n%+v, want\n%+v", after, keep, got, want)
					}
				}
			}
		}
	}
}

// 20.10: drawn portfolios, files and crashes.
func TestEachOnce(t *testing.T) {
	random := rand.New(rand.NewSource(2010))
	times := 0
	for range 400 {
		p := rules(among(random, 0, 0, 1, 2, 5))
		p.Order, p.ChargeOff = random.Intn(6), among(random, 40, 60, 200)
		var lines []string
		for loan := 1; loan <= 4; loan++ {
			lines = append(lines, fmt.Sprintf("open %d %d.00 %d %d %s", loan, 10+random.Intn(500), among(random, 0, 900), 1+random.Intn(6), among(random, "equal", "level", "balloon")))
		}
		days := 1 + random.Intn(60)
		lines = append(lines, fmt.Sprintf("day %d", days), "tick 1")
		if random.Intn(3) == 0 {
			lines = append(lines, "compact")
		}
		b := api.Batch{Day: first + days, Number: 1 + random.Intn(99)}
		for range 1 + random.Intn(12) {
			b.Items = append(b.Items, pay(1+random.Intn(5), among(random, 1, 1000, random.Int63n(60000)+1, api.MaxItem)))
		}
		want := open(t, p, lines...).once(b)
		w := open(t, p, lines...)
		times += w.postsUntilDone(modelFormat(b), func() {
			for range random.Intn(4) {
				w.does(fmt.Sprintf("crash %d %d", 1+random.Intn(9), among(random, 0, 3, 12, 18, 19, 20, 21, 22, 23, 24, 100, 9000)))
			}
		})
		if got := w.s.State(); !sameState(got, want) {
			t.Fatalf("20.10: behind crashes the portfolio is\n%+v, want\n%+v", got, want)
		}
	}
	if times < 1000 {
		t.Errorf("few crashes: %d postings of 400 files", times)
	}
}

// 20.7, 20.10: a posting that crashes stops there; what comes behind is done by the next one, and only that.
func TestStopsBehindACrash(t *testing.T) {
	file := fileOf(first, 12, pay(7, 100), pay(7, 200), pay(450123, 5))
	for keep, again := range map[int][]api.Errno{0: {api.ErrExists, api.OK, api.OK}, 5000: {api.ErrExists, api.ErrExists, api.OK}} {
		w := open(t, rules(0), append(twoLoans(), fmt.Sprintf("crash 3 %d", keep))...)
		replies := w.posts(file)
		if len(replies) != 2 || !slices.Equal(replies[0].Nums, []int64{0, 0, 100, 0, 0, 1}) || replies[1].Err != api.ErrCrashed {
			t.Fatalf("20.7: the replies are %v", replies)
		}
		// Down once, with the records of the two loans and of one or two payments, in the first epoch.
		if want := []int64{1, 3 + int64(min(keep, 1)), 1}; !slices.Equal(replies[1].Nums, want) {
			t.Errorf("20.7: the crash's numbers are %v, want %v", replies[1].Nums, want)
		}
		w.answers(file, again...)
		if l := w.s.State().Loans; l[0].Book.Net[api.Cash] != 300 || l[1].Book.Net[api.Cash] != 5 {
			t.Errorf("20.10: loan 7 has paid %d, loan 450123 %d", l[0].Book.Net[api.Cash], l[1].Book.Net[api.Cash])
		}
	}
}

// 20.10: a servicer that is taken up again from its disk knows which payments were taken.
func TestPostedAheadOfAResume(t *testing.T) {
	for _, every := range []int{0, 1} {
		w := open(t, rules(every), append(twoLoans(), "crash 3 5")...)
		w.posts(exampleFile)
		u := w.again()
		u.answers(exampleFile, api.ErrExists, api.OK)
		u = u.again()
		u.answers(exampleFile, api.ErrExists, api.ErrExists)
	}
}
