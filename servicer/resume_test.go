package servicer_test

import (
	"fmt"
	"math/rand"
	"slices"
	"testing"

	"arrears/api"
	"arrears/engine"
	"arrears/frame"
	"arrears/servicer"
	"arrears/wire"
)

// over holds Resume over two files to a portfolio, and the files to what is left of them.
func over(t *testing.T, p api.Policy, a, b string, state api.State, left [2]string) *story {
	t.Helper()
	s := resumed(t, p, []byte(a), []byte(b))
	if got := s.s.State(); !sameState(got, state) {
		t.Errorf("19.15: Resume has\n%+v, want\n%+v", got, state)
	}
	if s.files() != left {
		t.Errorf("19.15: Resume leaves %x, want %x", s.files(), left)
	}
	return s
}

// 19.15: a disk on which no file has a header is formatted, whatever lies there.
func TestResumeOverNoHeader(t *testing.T) {
	empty := api.State{Today: first}
	head := header(1, empty)
	record := opRecord(op(t, "day 1"))
	for _, x := range []struct {
		a, b   string
		writes int
	}{
		{"", "", 2}, {"x", "", 3}, {"", "x", 3}, {"junk", "more junk", 4}, {head[:len(head)-1], "", 3}, {record, record, 4},
		{framed("H\x00"), "", 3}, {framed("H"), framed(""), 4}, {framed("h\x01"), "", 3}, {"x" + head, "", 3},
	} {
		s := over(t, example(), x.a, x.b, empty, [2]string{head, ""})
		if s.s.Writes() != x.writes {
			t.Errorf("19.15: Resume over %q and %q makes %d writes, want %d", x.a, x.b, s.s.Writes(), x.writes)
		}
		s.says("restart", "ok 1 0 0")
		s.says("day 1", "ok 738001 0")
	}
}

// 19.15: the header with the greater epoch counts, of two with the same the first file's; the other file is cut, and what is torn.
func TestResumeOverTwoFiles(t *testing.T) {
	one, two := api.State{Today: 5}, api.State{Today: 6}
	day := opRecord(op(t, "day 1"))
	later := func(s api.State) api.State { s.Today++; return s }
	for _, x := range []struct {
		a, b   string
		state  api.State
		left   [2]string
		writes int
		says   string
	}{
		{header(1, one), header(2, two), two, [2]string{"", header(2, two)}, 1, "ok 2 0 0"},
		{header(3, one) + day, header(2, two) + day, later(one), [2]string{header(3, one) + day, ""}, 1, "ok 3 1 0"},
		{header(2, one), header(2, two), one, [2]string{header(2, one), ""}, 1, "ok 2 0 0"},
		{"junk", header(1, two) + day + day[:5], later(two), [2]string{"", header(1, two) + day}, 2, "ok 1 1 0"},
		{"", header(most, two) + day, later(two), [2]string{"", header(most, two) + day}, 0, "ok 9223372036854775807 1 0"},
		{header(1, one) + day + "x" + day, "", later(one), [2]string{header(1, one) + day, ""}, 1, "ok 1 1 0"},
		{header(1, one) + header(2, two), "", one, [2]string{header(1, one), ""}, 1, "ok 1 0 0"},
	} {
		s := over(t, example(), x.a, x.b, x.state, x.left)
		if s.s.Writes() != x.writes {
			t.Errorf("19.15: Resume makes %d writes, want %d", s.s.Writes(), x.writes)
		}
		s.says("restart", x.says)
	}
}

// 19.15: what cannot be read, or is refused by engine.Load, is damaged, wherever it stands among the records.
func TestResumeOverDamage(t *testing.T) {
	good := api.State{Today: first}
	head, day := header(1, good), opRecord(op(t, "day 1"))
	loan := func(id, day int) api.Loan { return api.Loan{ID: id, Day: day} }
	var crowd []api.Loan
	for i := range 33 {
		crowd = append(crowd, loan(i+1, first))
	}
	told := string(wire.EncodeState(good))
	for name, file := range map[string]string{
		"no state":                      framed("H\x01"),
		"a state with a byte too few":   framed("H\x01" + told[:len(told)-1]),
		"a state with a byte too many":  framed("H\x01" + told + "\x00"),
		"day 0":                         header(1, api.State{}),
		"a day behind the calendar":     header(1, api.State{Today: api.MaxDay + 1}),
		"too many loans":                header(1, api.State{Today: first, Loans: crowd}),
		"a loan of no number":           header(1, api.State{Today: first, Loans: []api.Loan{loan(0, first)}}),
		"a loan of another day":         header(1, api.State{Today: first, Loans: []api.Loan{loan(1, first-1)}}),
		"loans out of order":            header(1, api.State{Today: first, Loans: []api.Loan{loan(2, first), loan(1, first)}}),
		"a notice of a wrong ID":        header(1, api.State{Today: first, Notices: []api.Notice{{ID: 2}}}),
		"an empty record":               head + framed("R"),
		"a record of no kind":           head + framed("R\x03"),
		"an operation of no kind":       head + framed("R\x01\x2c"),
		"a record with a byte too many": head + framed("R"+string(wire.EncodeRecord(api.Record{Kind: api.RecordAcks}))+"\x00"),
		"a last record":                 head + day + day + framed("R\x02"),
		"a first record":                head + framed("Rx") + day,
	} {
		for _, files := range [][2]string{{file, ""}, {"", file}, {file, "junk"}} {
			if s, why := servicer.Resume(example(), []byte(files[0]), []byte(files[1])); s != nil || why != api.ErrDamaged {
				t.Errorf("19.15: Resume over %s = %v, %d", name, s, why)
			}
		}
	}
	// A damaged file beside one with a greater epoch is none of the journal.
	over(t, example(), framed("H\x01"), header(2, good), good, [2]string{"", header(2, good)})
}

// 19.15: records whose operation is refused, or of a kind that changes nothing, and acknowledgements of no notice are played without an effect, and counted.
func TestResumeOverRecordsWithoutEffect(t *testing.T) {
	file := header(1, api.State{Today: first, Notices: []api.Notice{{ID: 1, Loan: 5}, {ID: 2, Acked: true}, {ID: 3}}})
	want := api.State{Today: first + 1, Notices: []api.Notice{{ID: 1, Loan: 5}, {ID: 2, Acked: true}, {ID: 3, Acked: true}}}
	for _, line := range []string{"pay 7 1.00", "day 0", "day 61", "tick 1", "fate y", "crash 1 0", "restart", "compact", "today", "day 1"} {
		file += opRecord(op(t, line))
	}
	file += ackRecord() + ackRecord(3, 3, 2, 0, -1, 4, most, least)
	s := over(t, example(), file, "", want, [2]string{file, ""})
	s.says("restart", "ok 1 12 0")
	s.says("notices", "ok 3 2 0")
	// The notice that is owed goes out with its bytes, whatever they say.
	s.says("tick 3", "ok 2 1 3")
	if got := s.s.Accepted(); len(got) != 1 || !slices.Equal(got[0].Body, wire.EncodeNotice(want.Notices[0])) {
		t.Errorf("19.15: accepted is %+v", got)
	}
}

// 19.15: of files that are too long the first bytes count.
func TestResumeOverLongFiles(t *testing.T) {
	long := make([]byte, api.MaxFile+50)
	copy(long, header(1, api.State{Today: 7}))
	s := resumed(t, example(), long, long)
	if got := s.s.State(); !sameState(got, api.State{Today: 7}) {
		t.Errorf("19.15: Resume has %+v", got)
	}
	if s.files() != [2]string{header(1, api.State{Today: 7}), ""} {
		t.Errorf("19.15: Resume leaves %d and %d bytes", len(s.files()[0]), len(s.files()[1]))
	}
}

// 19.15, 19.16: a servicer that is resumed has a network of its own at tick 0, and the unacknowledged notices in its box, with no attempts, next at 0.
func TestResumedBox(t *testing.T) {
	s := begin(t, example())
	s.does("open 1 1.00 0 1 equal", "open 2 1.00 0 1 equal", "open 3 1.00 0 1 equal", "pay 1 1.00", "tick 3", "pay 2 1.00", "pay 3 1.00", "fate xxxx", "tick 2")
	u := s.again()
	notices := s.s.State().Notices
	want := []api.Pending{{ID: 2, Body: wire.EncodeNotice(notices[1])}, {ID: 3, Body: wire.EncodeNotice(notices[2])}}
	if got := u.s.Pending(); !samePending(got, want) || len(u.s.Accepted()) != 0 || u.s.Writes() != 0 {
		t.Errorf("19.16: the box holds %+v, want %+v", got, want)
	}
	u.says("notices", "ok 3 1 0")
	u.says("tick 1", "ok 2 0 1")
	u.says("tick 2", "ok 2 2 3")
	u.says("notices", "ok 3 3 2")
	// It goes on by itself: the first one knows nothing of it.
	s.says("notices", "ok 3 1 1")
}

// 19.16, W3: behind any operation and any crash a servicer resumed over a copy of the files has the same portfolio, acknowledgements too, and answers further operations alike; so does one resumed from that one's.
func TestTheDiskTellsAll(t *testing.T) {
	t.Parallel()
	random := rand.New(rand.NewSource(1916))
	further := 0
	for range 120 {
		p := anyPolicy(random)
		s := begin(t, p)
		for range random.Intn(120) {
			s.s.Do(anyOp(random))
		}
		s.does("calm")
		u := s.again()
		if !sameState(u.s.State(), s.s.State()) || !sameState(u.again().s.State(), s.s.State()) {
			t.Fatalf("19.16: the portfolio is\n%+v, resumed\n%+v", s.s.State(), u.s.State())
		}
		for range 40 {
			o := change(random)
			if random.Intn(4) == 0 {
				o = api.Op{Kind: among(random, api.OpLoan, api.OpPlan, api.OpBooks, api.OpAging, api.OpTimers, api.OpToday), Loan: 1 + random.Intn(4)}
			}
			a, b := s.s.Do(o), u.s.Do(o)
			if !sameReply(a, b) {
				t.Fatalf("19.16: Do(%+v) = %v, resumed %v", o, a, b)
			}
			if a.Err == api.OK && changes(o.Kind) {
				further++
			}
		}
		if !sameState(s.s.State(), u.s.State()) {
			t.Fatalf("19.16: further on the portfolio is\n%+v, resumed\n%+v", s.s.State(), u.s.State())
		}
	}
	if further < 500 {
		t.Errorf("few further operations: %d", further)
	}
}

// W3: a restart changes neither the portfolio nor what is acknowledged nor what the receiver has; two restarts are as one.
func TestRestartIsSteady(t *testing.T) {
	t.Parallel()
	random := rand.New(rand.NewSource(1930))
	for range 200 {
		s := begin(t, anyPolicy(random))
		for range 60 {
			s.s.Do(anyOp(random))
			if random.Intn(6) > 0 {
				continue
			}
			s.does("calm")
			before := s.whole()
			s.does("restart")
			once := s.whole()
			if !sameState(once.state, before.state) || !sameAccepted(once.accepted, before.accepted) {
				t.Fatalf("W3: a restart makes of\n%+v\n%+v", before, once)
			}
			s.does("restart")
			if twice := s.whole(); !sameWhole(twice, once) {
				t.Fatalf("W3: a second restart makes of\n%+v\n%+v", once, twice)
			}
		}
	}
}

// moment is a length of the journal's file, and the portfolio behind it.
type moment struct {
	length int
	state  api.State
}

// W3: over every beginning of a journal's file a servicer has the portfolio of the last record that is there whole.
func TestEveryBeginning(t *testing.T) {
	s := begin(t, example())
	moments := []moment{{len(s.files()[0]), s.s.State()}}
	for _, line := range []string{"open 7 1200.00 900 3 equal", "open 8 1.00 0 1 equal", "day 37", "pay 8 1.00", "tick 1", "tick 1", "tick 1", "promise 7 2.00 3", "pay 7 1.00", "day 20", "tick 1", "tick 1", "tick 1"} {
		s.does(line)
		moments = append(moments, moment{len(s.files()[0]), s.s.State()})
	}
	file := s.files()[0]
	for size := moments[0].length; size <= len(file); size++ {
		u := resumed(t, s.p, []byte(file[:size]), nil)
		last := moments[0]
		for _, m := range moments {
			if m.length <= size {
				last = m
			}
		}
		if !sameState(u.s.State(), last.state) || u.files()[0] != file[:last.length] {
			t.Fatalf("W3: over %d bytes the portfolio is\n%+v, want\n%+v", size, u.s.State(), last.state)
		}
	}
}

// wholeHeader tells whether a file holds a header whole.
func wholeHeader(file []byte) bool {
	payload, _, _ := frame.Decode(file, 0)
	return len(payload) > 0
}

// W3: over any beginnings of both files, of which one holds its header whole, a servicer has the portfolio of a moment that went by; over others it has an empty one.
func TestAnyBeginnings(t *testing.T) {
	t.Parallel()
	random := rand.New(rand.NewSource(1931))
	met := 0
	for range 40 {
		s := begin(t, anyPolicy(random))
		moments := map[string]int{string(wire.EncodeState(s.s.State())): 1}
		for range 60 {
			o := anyOp(random)
			if o.Kind == api.OpTick {
				// A tick of many has moments within it.
				o.Days = 1
			}
			s.s.Do(o)
			moments[string(wire.EncodeState(s.s.State()))]++
		}
		a, b := s.s.Files()
		empty := string(wire.EncodeState(api.State{Today: s.p.FirstDay}))
		for range 150 {
			x, y := a[:random.Intn(len(a)+1)], b[:random.Intn(len(b)+1)]
			switch random.Intn(3) {
			case 0:
				x = a
			case 1:
				y = b
			}
			told := string(wire.EncodeState(resumed(t, s.p, x, y).s.State()))
			if !wholeHeader(x) && !wholeHeader(y) {
				if told != empty {
					t.Fatalf("19.15: over files without a header the portfolio is not empty")
				}
				continue
			}
			met++
			if moments[told] == 0 {
				t.Fatalf("W3: over %d of %d and %d of %d bytes there is a portfolio that never was", len(x), len(a), len(y), len(b))
			}
		}
	}
	if met < 1000 {
		t.Errorf("few beginnings have a header: %d", met)
	}
}

// illMade is a portfolio that can be read, and that no run made.
func illMade(random *rand.Rand, s api.State) api.State {
	cents := func() int64 { return among[int64](random, least, -1, 0, 1, 5000, most/2, most) }
	wild := func() int {
		return among(random, least, -1, 0, 1, s.Today-1, s.Today, s.Today+1, s.Today+30, api.MaxDay, most)
	}
	for range 1 + random.Intn(4) {
		l := &s.Loans[random.Intn(len(s.Loans))]
		switch random.Intn(8) {
		case 0:
			l.Book.Net[random.Intn(api.Accounts)] = cents()
		case 1:
			l.Case.Status = among(random, least, 0, 1, 2, 3, 4, 5, 6, 7, 8, 9, most)
		case 2:
			l.Case.Deadline, l.Case.PromiseDue, l.Case.Since = wild(), wild(), wild()
		case 3:
			l.Plan = append(l.Plan, api.Instalment{Due: wild(), Interest: cents(), Principal: cents()})
		case 4:
			l.Plan = nil
		case 5:
			l.Terms = api.Terms{Kind: wild(), Principal: cents(), Rate: cents(), Count: wild(), Start: wild(), Rule: wild()}
		case 6:
			l.Last, l.HasLast = api.Parts{Fees: cents(), Interest: cents(), Principal: cents()}, true
		case 7:
			l.Carry, l.Applied, l.ChargedOff, l.Trace = cents(), cents(), cents(), wild()
		}
	}
	return s
}

// 19.15: of loans that no run made State tells the same each time, behind a restart, behind a compaction and over the files too; what is done and asked ends.
func TestResumeOverIllMade(t *testing.T) {
	t.Parallel()
	random := rand.New(rand.NewSource(1915))
	played := 0
	for range 300 {
		p := anyPolicy(random)
		made := begin(t, p)
		for range 40 {
			made.s.Do(change(random))
		}
		if len(made.s.State().Loans) == 0 {
			continue
		}
		given := illMade(random, made.s.State())
		file := header(3, given)
		u := over(t, p, file, "", given, [2]string{file, ""})
		u.does("restart", "compact", "restart")
		if !sameState(u.s.State(), given) {
			t.Fatalf("19.15: a compaction makes of\n%+v\n%+v", given, u.s.State())
		}
		for range 10 {
			file += opRecord(change(random))
		}
		u = resumed(t, p, []byte(file), nil)
		for range 20 {
			state := u.s.State()
			for _, next := range []func() *story{u.again, func() *story { u.does("restart"); return u }, func() *story { u.does("compact", "restart"); return u }} {
				if got := next().s.State(); !sameState(got, state) {
					t.Fatalf("19.15: of ill-made loans the portfolio is\n%+v, then\n%+v", state, got)
				}
			}
			if o := anyOp(random); u.s.Do(o).Err == api.OK && changes(o.Kind) {
				played++
			}
			u.does("calm")
		}
	}
	if played < 200 {
		t.Errorf("few operations were done: %d", played)
	}
}

// 19.15, 19.16: a portfolio without loans goes on from its day and its notices, whatever they are.
func TestResumeOverNotices(t *testing.T) {
	state := api.State{Today: api.MaxDay, Notices: []api.Notice{{ID: 1, Loan: least, Kind: most, Day: -1, Amount: least}, {ID: 2, Acked: true}}}
	s := resumed(t, example(), nil, []byte(header(most, state)))
	e, _ := engine.Load(s.p, state)
	s.refuses(api.ErrDate, op(t, "day 1"))
	s.refuses(api.ErrRange, op(t, "compact"))
	s.says("today", fmt.Sprint("ok ", api.MaxDay, " 0"))
	if got, want := s.s.Pending(), []api.Pending{{ID: 1, Body: wire.EncodeNotice(state.Notices[0])}}; !samePending(got, want) {
		t.Errorf("19.16: the box holds %+v, want %+v", got, want)
	}
	s.says("tick 3", "ok 2 1 3")
	e.Acknowledge(1)
	if !sameState(s.s.State(), e.Save()) || !sameState(s.again().s.State(), e.Save()) {
		t.Errorf("19.15: the portfolio is %+v", s.s.State())
	}
}
