package lockbox_test

import (
	"math/rand"
	"slices"
	"strings"
	"testing"

	"arrears/api"
	"arrears/disk"
	"arrears/journal"
	"arrears/lockbox"
	"arrears/wire"
)

// pay is an item.
func pay(loan int, amount int64) api.Item { return api.Item{Loan: loan, Amount: amount} }

// fileOf is a file of a day with these items.
func fileOf(day, number int, items ...api.Item) string {
	return modelFormat(api.Batch{Day: day, Number: number, Items: items})
}

// twoLoans are lines that open the loans of the chapter's file.
func twoLoans() []string {
	return []string{"open 7 1200.00 0 12 equal", "open 450123 1200.00 0 12 equal"}
}

// turnedAway holds a posting to a refusal, by which nothing changes.
func (w *shop) turnedAway(file string, why api.Errno, line int) {
	w.t.Helper()
	before := w.whole()
	replies, gotWhy, gotLine := lockbox.Post(w.s, []byte(file))
	if replies != nil || gotWhy != why || gotLine != line {
		w.t.Errorf("20.7: Post(%.120q) = %v, %d, %d, want none, %d, %d", file, replies, gotWhy, gotLine, why, line)
	}
	if w.whole() != before {
		w.t.Fatalf("20.7: Post(%.120q) is refused and changes something", file)
	}
}

// 20.7: a file that Parse refuses, and one of another day, are refused whole; a fault is told ahead of the day.
func TestPostRefused(t *testing.T) {
	for _, every := range []int{0, 1} {
		w := open(t, rules(every), append(twoLoans(), "crash 1 0")...)
		w.turnedAway("", api.ErrForm, 0)
		w.turnedAway(headerLine+firstLine+secondLine, api.ErrForm, 3)
		w.turnedAway(exampleFile+"\n", api.ErrForm, 4)
		w.turnedAway(strings.Replace(exampleFile, "0000075", "0000057", 1), api.ErrDigit, 1)
		w.turnedAway(headerLine+firstLine+firstLine+trailerLine, api.ErrOrder, 2)
		w.turnedAway(headerLine+firstLine+trailerLine, api.ErrTotal, 2)
		for _, day := range []string{"20210728", "20210730", "20200729", "00010101", "99991231"} {
			w.turnedAway(strings.Replace(exampleFile, "20210729", day, 1), api.ErrDate, 0)
			w.turnedAway(strings.Replace(exampleFile, "20210729", day, 1)+"\n", api.ErrForm, 4)
		}
		// The crash still waits: none of these has reached the disk.
		w.answers(exampleFile, api.ErrCrashed)
		w.answers(exampleFile, api.OK, api.OK)
	}
}

// 20.7: the day is the portfolio's, not the policy's first.
func TestPostOnALaterDay(t *testing.T) {
	w := open(t, rules(0), append(twoLoans(), "day 9")...)
	w.turnedAway(exampleFile, api.ErrDate, 0)
	later := strings.Replace(exampleFile, "20210729", "20210807", 1)
	w.answers(later, api.OK, api.OK)
	w.does("day 1")
	w.turnedAway(later, api.ErrDate, 0)
}

// 20.7: the replies are those of Do, one after the other; refusals do not stop the posting.
func TestPostDoesTheOperations(t *testing.T) {
	lines := append(twoLoans(), "open 8 10.00 0 1 equal", "open 9 10.00 0 1 equal", "pay 9 92233720368547757.00", "day 37", "tick 2")
	items := []api.Item{pay(7, 10500), pay(999999, 1), pay(8, 1000), pay(9, api.MaxItem), pay(7, 1), pay(8, 300), pay(1, 1), pay(450123, api.MaxItem), pay(7, 250000), pay(9, 1)}
	file := fileOf(first+37, 5, items...)
	w, twin := open(t, rules(3), lines...), open(t, rules(3), lines...)
	replies := w.posts(file)
	var want []api.Reply
	for _, op := range lockbox.Ops(api.Batch{Day: first + 37, Number: 5, Items: items}) {
		want = append(want, twin.s.Do(op))
	}
	if !slices.EqualFunc(replies, want, sameReply) {
		t.Errorf("20.7: the replies are\n%v, want\n%v", replies, want)
	}
	if w.whole() != twin.whole() {
		t.Errorf("20.7: the servicer is\n%+v, want\n%+v", w.whole(), twin.whole())
	}
	for place, why := range map[int]api.Errno{0: api.OK, 1: api.ErrNoLoan, 3: api.ErrRange, 4: api.OK, 6: api.ErrNoLoan, 9: api.OK} {
		if replies[place].Err != why {
			t.Errorf("20.7: the item %d is answered %d, want %d", place, replies[place].Err, why)
		}
	}
	// The first item pays the fee and the oldest row; its loan's trace is its last item's.
	if !slices.Equal(replies[0].Nums, []int64{500, 0, 10000, 0, 0, api.Cured}) {
		t.Errorf("20.7: the first item's numbers are %v", replies[0].Nums)
	}
	if trace := w.s.State().Loans[0].Trace; trace != 50009 {
		t.Errorf("20.6: the trace of loan 7 is %d", trace)
	}
}

// 20.7: a file of a later number is taken, and then none of an earlier one on the loans that it paid.
func TestPostOfOtherNumbers(t *testing.T) {
	w := open(t, rules(0), twoLoans()...)
	w.answers(fileOf(first, 12, pay(7, 5)), api.OK)
	w.answers(fileOf(first, 11, pay(450123, 5), pay(7, 5)), api.OK, api.ErrExists)
	w.answers(fileOf(first, 12, pay(7, 6), pay(7, 5)), api.ErrExists, api.OK)
	w.answers(fileOf(first, 13, pay(7, 5)), api.OK)
	w.answers(fileOf(first, api.MaxBatch, pay(7, 5)), api.OK)
	w.answers(fileOf(first, 13, pay(7, 5)), api.ErrExists)
}

// filled is a journal's file with records behind it that do nothing, so that just so many bytes are free.
func filled(t *testing.T, file []byte, free int) []byte {
	t.Helper()
	d := disk.Load(file, nil)
	j, _, _ := journal.Open(d)
	for gap := api.MaxFile - free - len(file); gap > 0; {
		length := gap
		if gap > 4000000 {
			length = 3000000
		}
		if why := j.Append(filler(t, length)); why != api.OK {
			t.Fatalf("7: a record of %d bytes is refused: %d", length, why)
		}
		gap -= length
	}
	file, _ = d.Durable(0)
	return file
}

// filler is a record that does nothing and takes so many bytes in the journal: acknowledgements of notices that do not exist.
func filler(t *testing.T, length int) []byte {
	t.Helper()
	// Around the IDs: the frame's eight bytes and its mark, the record's kind, and some bytes that tell how many there are.
	for around := 11; around <= 14; around++ {
		// The least ID is told in ten bytes, 0 in one.
		tens, ones := (length-around)/10, (length-around)%10
		ids := slices.Concat(slices.Repeat([]int{least}, tens), make([]int, ones))
		record := wire.EncodeRecord(api.Record{Kind: api.RecordAcks, Acked: ids})
		if len(record)+9 == length {
			return record
		}
	}
	t.Fatalf("no record takes %d bytes", length)
	return nil
}

// 20.7: behind the first item for which the journal has no room the posting stops, and a later item of the same loan hides it not: once there is room, all of the file is taken.
func TestPostWithoutRoom(t *testing.T) {
	items := []api.Item{pay(7, 10000), pay(450123, 5), pay(7, 200), pay(450123, 6)}
	file := fileOf(first, 12, items...)
	var lengths []int
	for _, op := range lockbox.Ops(api.Batch{Day: first, Number: 12, Items: items}) {
		lengths = append(lengths, len(wire.EncodeRecord(api.Record{Kind: api.RecordOp, Op: op}))+9)
	}
	ahead, _ := open(t, rules(0), twoLoans()...).s.Files()
	nearly := filled(t, ahead, 2000)
	steady := open(t, rules(0), twoLoans()...)
	steady.answers(file, api.OK, api.OK, api.OK, api.OK)
	room := 0
	for taken := range items {
		w := resumed(t, rules(0), filled(t, nearly, room+lengths[taken]-1), nil)
		room += lengths[taken]
		want := append(make([]api.Errno, taken), api.ErrFull)
		w.answers(file, want...)
		before := w.whole()
		for i := range taken {
			want[i] = api.ErrExists
		}
		// The last item that was taken hides those ahead of it; the one without room is still the first that could be.
		w.answers(file, want...)
		if w.whole() != before {
			t.Fatalf("20.7: posted again without room, it changes something")
		}
		w.does("compact")
		want[taken] = api.OK
		w.answers(file, append(want, make([]api.Errno, len(items)-1-taken)...)...)
		if !sameState(w.s.State(), steady.s.State()) {
			t.Errorf("20.10: behind a full file the portfolio is %+v, want %+v", w.s.State(), steady.s.State())
		}
	}
}

// 20.7: a file with as many items as there may be, for as many loans as there may be, is posted whole.
func TestPostOfTheLongestFile(t *testing.T) {
	random := rand.New(rand.NewSource(207))
	for _, every := range []int{0, 100} {
		w, twin := open(t, rules(every)), open(t, rules(every))
		for number := range api.MaxLoans {
			op := api.Op{Kind: api.OpOpen, Loan: 1 + number, Amount: 10000000, Count: 12, Days: api.PlanEqual}
			w.s.Do(op)
			twin.s.Do(op)
		}
		b := api.Batch{Day: first, Number: 3}
		for range api.MaxItems {
			b.Items = append(b.Items, api.Item{Loan: 1 + random.Intn(api.MaxLoans+1), Amount: 1 + random.Int63n(1000)})
		}
		replies := w.posts(modelFormat(b))
		if len(replies) != api.MaxItems {
			t.Fatalf("20.7: %d replies", len(replies))
		}
		for i, op := range lockbox.Ops(b) {
			if want := twin.s.Do(op); !sameReply(replies[i], want) {
				t.Fatalf("20.7: the item %d is answered %v, want %v", i, replies[i], want)
			}
		}
		if !sameState(w.s.State(), twin.s.State()) {
			t.Errorf("20.7: the portfolio is not that of the operations done by Do")
		}
	}
}
