package servicer_test

import (
	"fmt"
	"strings"
	"testing"

	"arrears/api"
	"arrears/wire"
)

// filler is a record of just so many bytes (between some thousand and four million) that does nothing: acknowledgements with IDs that no notice has.
func filler(t *testing.T, length int) string {
	t.Helper()
	// Around the IDs: the frame's eight bytes, the two marks, and two to four bytes that tell how many there are.
	for around := 12; around <= 14; around++ {
		// The least ID is told in ten bytes, 0 in one.
		tens, ones := (length-around)/10, (length-around)%10
		told := framed("R\x02" + string(wire.PutUint(uint64(tens+ones))) + strings.Repeat(string(wire.PutInt(least)), tens) + strings.Repeat("\x00", ones))
		if len(told) == length {
			return told
		}
	}
	t.Fatalf("no record has %d bytes", length)
	return ""
}

// full is a journal's file with this portfolio and records that do nothing, and the number of these, in which just so many bytes are free.
func full(t *testing.T, s api.State, free int) (string, int) {
	t.Helper()
	file, count := header(1, s), 0
	for gap := api.MaxFile - free - len(file); gap > 0; gap = api.MaxFile - free - len(file) {
		length := gap
		if gap > 4000000 {
			length = 3000000
		}
		file += filler(t, length)
		count++
	}
	return file, count
}

// owing is a portfolio with two loans and an owed notice.
func owing(t *testing.T) api.State {
	s := begin(t, example())
	s.does("open 7 100.00 0 1 equal", "open 8 1.00 0 1 equal", "pay 8 1.00")
	return s.s.State()
}

// 19.1, W7: an operation for whose record the journal has no room is refused, and nothing changes; a byte more, and it is done.
func TestNoRoomForAnOperation(t *testing.T) {
	state := owing(t)
	length := len(opRecord(op(t, "pay 7 1.00")))
	for free := length - 1; free <= length; free++ {
		file, count := full(t, state, free)
		s := resumed(t, example(), []byte(file), nil)
		if free == length {
			s.says("pay 7 1.00", "ok 0 0 100 0 0 1")
			count++
		}
		s.does("crash 1 0")
		s.refuses(api.ErrFull, op(t, "pay 7 1.00"))
		s.refuses(api.ErrNoLoan, op(t, "pay 9 1.00"))
		s.does("calm", "today")
		s.says("restart", fmt.Sprintf("ok 1 %d 0", count))
		s.says("compact", "ok 2")
		s.says("pay 7 1.00", "ok 0 0 100 0 0 1")
	}
}

// 19.2, W5: where the journal has no room for a tick's acknowledgements, none of them counts and the ticks end there; what went by is gone, and once there is room all goes on.
func TestNoRoomForAcknowledgements(t *testing.T) {
	length := len(ackRecord(1))
	for free := range 2 {
		file, count := full(t, owing(t), length-1+free)
		s := resumed(t, example(), []byte(file), nil)
		if free == 1 {
			s.says("tick 3", "ok 2 1 3")
			s.says("restart", fmt.Sprintf("ok 1 %d 0", count+1))
			continue
		}
		before := s.whole()
		for range 2 {
			// The acknowledgements of the sendings of the ticks 1 and 2 come at 3 and 4, and nothing is sent at those.
			if r := s.s.Do(op(t, "tick 200")); !sameReply(r, api.Reply{Err: api.ErrFull}) {
				t.Fatalf("19.2: without room tick 200 = %v", r)
			}
			got := s.whole()
			if !sameState(got.state, before.state) || got.files != before.files || got.writes != before.writes {
				t.Errorf("19.2: acknowledgements without room change something")
			}
			if p := got.pending; len(p) != 1 || p[0].Attempts != 2 || p[0].Next != 4 {
				t.Errorf("19.2: the box holds %+v", p)
			}
			s.says("notices", "ok 1 0 1")
		}
		s.says("tick 1", "ok 1 0 5")
		s.says("compact", "ok 2")
		s.says("tick 10", "ok 0 1 15")
		s.says("notices", "ok 1 1 1")
	}
}

// 19.3: what finds no room is refused and compacts nothing, whatever the policy says, ticks neither; ticks that bring nothing are not refused, and do.
func TestNoRoomAndNoCompaction(t *testing.T) {
	file, count := full(t, owing(t), 3)
	s := resumed(t, snapping(1), []byte(file), nil)
	s.refuses(api.ErrFull, op(t, "pay 7 1.00"), op(t, "day 1"))
	s.says("tick 200", "error 52")
	s.says("restart", fmt.Sprintf("ok 1 %d 0", count))
	// The acknowledgement of the second sending is lost by a tick of its own.
	s.says("tick 1", "error 52")
	s.says("restart", fmt.Sprintf("ok 1 %d 0", count))
	s.says("tick 1", "ok 1 0 5")
	s.says("restart", "ok 2 0 0")
	s.says("day 1", "ok 738001 0")
	s.says("restart", "ok 3 0 0")
}

// long is a portfolio without loans that is told in just so many bytes: acknowledged notices, and one that is not.
func long(t *testing.T, length int) api.State {
	t.Helper()
	s := api.State{Today: first}
	for i := range 350000 {
		s.Notices = append(s.Notices, api.Notice{ID: i + 1, Loan: 1 + i%9, Kind: 5, Day: first, Acked: i > 0})
	}
	for i, gap := 0, length-len(wire.EncodeState(s)); gap > 0; i++ {
		// An amount of 2^(7k-1) is told in k bytes more than 0 is.
		more := min(gap, 8)
		s.Notices[i].Amount = 1 << (7*more - 1)
		gap -= more
	}
	if got := len(wire.EncodeState(s)); got != length {
		t.Fatalf("the portfolio is told in %d bytes, not in %d", got, length)
	}
	return s
}

// 19.3, 19.5: a portfolio that has become too long for a snapshot is not compacted: a compact line is refused, an operation goes on without; a byte less, and it is.
func TestNoRoomForASnapshot(t *testing.T) {
	// The header has its mark and its epoch ahead of the snapshot.
	state := long(t, api.MaxPayload-2)
	for _, every := range []int{0, 1} {
		s := resumed(t, snapping(every), []byte(header(1, state)), nil)
		s.says("compact", "ok 2")
		s.says("restart", "ok 2 0 0")
		s.says("day 1", fmt.Sprint("ok ", first+1, " 0"))
		s.says("restart", []string{"ok 2 1 0", "ok 3 0 0"}[every])
		s.says("open 7 1.00 0 1 equal", "ok 1 738032 100")
		writes := s.s.Writes()
		s.refuses(api.ErrLong, op(t, "compact"))
		s.says("pay 7 1.00", "ok 0 0 100 0 0 9")
		if got := s.s.Writes() - writes; got != 2 {
			t.Errorf("19.3: an operation whose compaction is refused makes %d writes", got)
		}
		s.says("restart", []string{"ok 2 3 0", "ok 3 2 0"}[every])
		s.says("tick 3", "ok 4 2 3")
		s.says("restart", []string{"ok 2 4 0", "ok 3 3 0"}[every])
		s.says("notices", "ok 350001 350001 2")
	}
}

// 19.3, 19.5: behind the last epoch there is none: a compact line is refused, an operation goes on without.
func TestNoFurtherEpoch(t *testing.T) {
	for _, every := range []int{0, 1, 2} {
		s := resumed(t, snapping(every), []byte(header(most, owing(t))), nil)
		s.refuses(api.ErrRange, op(t, "compact"))
		s.says("pay 7 1.00", "ok 0 0 100 0 0 1")
		s.says("tick 3", "ok 2 1 3")
		s.says("day 1", "ok 738001 0")
		s.refuses(api.ErrRange, op(t, "compact"))
		s.says("restart", "ok 9223372036854775807 3 0")
		s.does("crash 2 0")
		s.says("day 1", "error 190 1 3 9223372036854775807")
	}
	s := resumed(t, snapping(1), []byte(header(most-1, owing(t))), nil)
	s.says("day 1", "ok 738001 0")
	s.says("day 1", "ok 738002 0")
	s.says("restart", "ok 9223372036854775807 1 0")
}
