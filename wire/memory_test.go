package wire_test

import (
	"bytes"
	"math"
	"slices"
	"testing"

	"arrears/api"
	"arrears/wire"
)

// guarded lays a list into the midst of a longer memory, and hands out that memory too.
func guarded[T any](list []T, guard T) (inside, all []T) {
	all = slices.Concat(slices.Repeat([]T{guard}, 8), list, slices.Repeat([]T{guard}, 64))
	return all[8 : 8+len(list)], all
}

// overwrite writes over a list and its spare room.
func overwrite[T any](list []T, with T) {
	list = list[:cap(list)]
	for i := range list {
		list[i] = with
	}
}

// readAll asks every call that reads at a place.
func readAll(b []byte, at int) {
	wire.Uint(b, at)
	wire.Int(b, at)
	wire.Bool(b, at)
	wire.Text(b, at)
	wire.Ints(b, at)
	wire.List(b, at, wire.Text)
	wire.List(b, at, wire.Bool)
	wire.List(b, at, wire.Ints)
}

func decodeAll(b []byte) {
	wire.DecodeOp(b)
	wire.DecodeRecord(b)
	wire.DecodeNotice(b)
	wire.DecodeLoan(b)
	wire.DecodeState(b)
}

func someTellings() [][]byte {
	return slices.Concat(
		opForm().tells[:30], recordForm().tells[:30], noticeForm().tells, loanForm().tells, stateForm().tells,
		tooLong(), [][]byte{nil, wire.PutText("a text"), wire.PutInts(edgeInts())},
	)
}

// 4.1: bytes that are handed in stay, those ahead of them and behind them too, at all places.
func TestReadingLeavesBytes(t *testing.T) {
	for _, told := range someTellings() {
		b, all := guarded(told, 0xa5)
		before := bytes.Clone(all)
		for at := -2; at <= len(b)+2; at++ {
			readAll(b, at)
		}
		for _, at := range []int{math.MinInt, math.MinInt + 1, math.MaxInt - 1, math.MaxInt} {
			readAll(b, at)
		}
		for k := range b {
			decodeAll(b[:k])
		}
		decodeAll(b)
		if !bytes.Equal(all, before) {
			t.Fatalf("4.1: reading %x changed the bytes that were handed in", told)
		}
	}
}

// 4.1: what lies behind the bytes that are handed in is not read.
func TestReadingEndsAtTheEnd(t *testing.T) {
	for _, told := range someTellings() {
		for k := range told {
			cut, _ := guarded(told[:k], 1)
			short := bytes.Clone(told[:k])
			x, next, ok := wire.Ints(cut, 0)
			y, end, fine := wire.Ints(short, 0)
			if !slices.Equal(x, y) || next != end || ok != fine {
				t.Fatalf("4.1: Ints(%x, 0) hangs on what lies behind", told[:k])
			}
			s, next, ok := wire.Text(cut, 0)
			r, end, fine := wire.Text(short, 0)
			if s != r || next != end || ok != fine {
				t.Fatalf("4.1: Text(%x, 0) hangs on what lies behind", told[:k])
			}
		}
	}
}

// 4.1: lists that are handed in stay, and so does what put hands out.
func TestTellingLeavesLists(t *testing.T) {
	list, all := guarded([]int64{1, -2, 3}, 77)
	before := slices.Clone(all)
	wire.PutInts(list)
	if !slices.Equal(all, before) {
		t.Errorf("4.1: PutInts changed %v to %v", before, all)
	}

	shared, room := guarded([]byte{6}, 0x5a)
	kept := bytes.Clone(room)
	out := wire.PutList(list, func(int64) []byte { return shared })
	overwrite(out, 0xee)
	if !bytes.Equal(room, kept) {
		t.Errorf("4.1: PutList wrote into what put answered: %x", room)
	}
	if !slices.Equal(all, before) {
		t.Errorf("4.1: PutList changed %v to %v", before, all)
	}
}

// 4.1: a put that answers the same memory each time.
func TestPutListCopies(t *testing.T) {
	room := make([]byte, 1, 16)
	out := wire.PutList([]byte{4, 5, 6}, func(x byte) []byte {
		room[0] = x
		return room
	})
	if string(out) != "\x03\x04\x05\x06" {
		t.Errorf("4.6: PutList with a put that answers the same memory each time = %x, want 03 04 05 06", out)
	}
}

// 4.1: records that are handed in stay, with their lists and what lies behind these.
func TestEncodingLeavesRecords(t *testing.T) {
	s := filled[api.State](5)
	plan, allRows := guarded([]api.Instalment{{Due: 1}, {Due: 2, Marked: true}}, api.Instalment{Due: 99})
	acked, allIDs := guarded([]int{1, 2, 3}, 99)
	loans, allLoans := guarded([]api.Loan{{ID: 1, Plan: plan}, {ID: 2}}, api.Loan{ID: 99})
	notices, allNotices := guarded([]api.Notice{{ID: 1, Acked: true}}, api.Notice{ID: 99})
	s.Loans, s.Notices = loans, notices
	rows, ids, owed := slices.Clone(allRows), slices.Clone(allIDs), slices.Clone(allNotices)
	whole := told(allLoans)
	overwrite(wire.EncodeState(s), 0xee)
	overwrite(wire.EncodeLoan(loans[0]), 0xee)
	overwrite(wire.EncodeRecord(api.Record{Kind: api.RecordAcks, Acked: acked}), 0xee)
	if !slices.Equal(allRows, rows) || !slices.Equal(allIDs, ids) || !slices.Equal(allNotices, owed) || !bytes.Equal(told(allLoans), whole) {
		t.Error("4.1: telling a record changed its lists or what lies behind them")
	}
}

// 4.1: bytes that are answered are new memory at each call.
func TestTellingIsNew(t *testing.T) {
	s := filled[api.State](6)
	l := filled[api.Loan](7)
	pay := api.Op{Kind: api.OpPay, Loan: 7, Amount: 500}
	for name, call := range map[string]func() []byte{
		"PutUint of one byte":  func() []byte { return wire.PutUint(5) },
		"PutUint of ten bytes": func() []byte { return wire.PutUint(math.MaxUint64) },
		"PutInt":               func() []byte { return wire.PutInt(-1) },
		"PutBool of true":      func() []byte { return wire.PutBool(true) },
		"PutBool of false":     func() []byte { return wire.PutBool(false) },
		"PutText":              func() []byte { return wire.PutText("ab") },
		"PutText of none":      func() []byte { return wire.PutText("") },
		"PutInts":              func() []byte { return wire.PutInts([]int64{1, 2}) },
		"PutInts of none":      func() []byte { return wire.PutInts(nil) },
		"EncodeOp":             func() []byte { return wire.EncodeOp(pay) },
		"EncodeOp of no field": func() []byte { return wire.EncodeOp(api.Op{Kind: api.OpToday}) },
		"EncodeRecord":         func() []byte { return wire.EncodeRecord(api.Record{Kind: 1, Op: pay}) },
		"EncodeRecord of acks": func() []byte { return wire.EncodeRecord(api.Record{Kind: 2, Acked: []int{1}}) },
		"EncodeNotice":         func() []byte { return wire.EncodeNotice(api.Notice{ID: 3}) },
		"EncodeLoan":           func() []byte { return wire.EncodeLoan(l) },
		"EncodeState":          func() []byte { return wire.EncodeState(s) },
	} {
		first := call()
		want := bytes.Clone(first)
		overwrite(first, 0xee)
		second := call()
		if !bytes.Equal(second, want) {
			t.Errorf("4.1: %s = %x, then %x", name, want, second)
		}
		overwrite(first, 0xdd)
		if !bytes.Equal(second, want) {
			t.Errorf("4.1: two answers of %s share memory", name)
		}
	}
}

// 4.1: what is read does not change with the bytes from which it was read.
func TestReadingIsNew(t *testing.T) {
	b := wire.PutText("a text of some length, longer than a word")
	s, _, _ := wire.Text(b, 0)
	op := wire.EncodeOp(api.Op{Kind: api.OpFate, Text: "dlpdlpdlpdlpdlpdlp"})
	o, _ := wire.DecodeOp(op)
	overwrite(b, 0xee)
	overwrite(op, 0xee)
	if s != "a text of some length, longer than a word" || o.Text != "dlpdlpdlpdlpdlpdlp" {
		t.Errorf("4.1: texts changed to %q and %q with the bytes they were read from", s, o.Text)
	}

	told := wire.PutInts([]int64{1, 2, 3})
	first, _, _ := wire.Ints(told, 0)
	overwrite(first, 9)
	second, _, _ := wire.Ints(told, 0)
	overwrite(first, 8)
	overwrite(told, 0xee)
	if !slices.Equal(second, []int64{1, 2, 3}) {
		t.Errorf("4.1: Ints answers memory that it shares: %v", second)
	}
}

// 4.1: no two lists of one answer share memory, spare room neither.
func TestListsOfOneAnswer(t *testing.T) {
	rows := make([]api.Instalment, 5)
	told := wire.EncodeState(api.State{
		Today:   1,
		Loans:   []api.Loan{{ID: 1, Plan: rows}, {ID: 2, Plan: rows}, {ID: 3, Plan: rows}},
		Notices: []api.Notice{{ID: 1}, {ID: 2}, {ID: 3}},
	})
	s, _ := wire.DecodeState(told)
	for k := range s.Loans {
		overwrite(s.Loans[k].Plan, api.Instalment{Due: k})
	}
	overwrite(s.Notices, api.Notice{ID: 9})
	_ = append(s.Loans, api.Loan{ID: 8})
	for k, l := range s.Loans {
		if l.ID != k+1 || len(l.Plan) != 5 || slices.ContainsFunc(l.Plan, func(i api.Instalment) bool { return i.Due != k }) {
			t.Errorf("4.1: loan %d shares memory: %+v", k, l)
		}
	}
	if again, ok := wire.DecodeState(told); !ok || again.Loans[1].Plan[0].Due != 0 || again.Notices[2].ID != 3 {
		t.Errorf("4.1: DecodeState answers otherwise when it is asked again: %+v, %v", again, ok)
	}
}

// 4.1: a number of elements that there might be, of a kind that no memory could hold so often.
func TestListTakesNoRoomAhead(t *testing.T) {
	const n = 1 << 20
	b := append(wire.PutUint(n), make([]byte, n)...)
	list, next, ok := wire.List(b, 0, func([]byte, int) ([n]byte, int, bool) { return [n]byte{}, 0, false })
	if len(list) != 0 || next != 0 || ok {
		t.Errorf("4.7: List with a get that refuses = %d elements, %d, %v, want it refused", len(list), next, ok)
	}
}
