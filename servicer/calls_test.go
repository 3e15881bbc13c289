package servicer_test

import (
	"slices"
	"strings"
	"testing"

	"arrears/api"
	"arrears/engine"
	"arrears/script"
	"arrears/servicer"
	"arrears/wire"
)

// refusedPolicies have each one field that may not be.
func refusedPolicies() []api.Policy {
	return []api.Policy{
		{},
		with(func(p *api.Policy) { p.FirstDay = 0 }), with(func(p *api.Policy) { p.FirstDay = api.MaxDay + 1 }),
		with(func(p *api.Policy) { p.Grace = -1 }), with(func(p *api.Policy) { p.NonAccrual = 5 }),
		with(func(p *api.Policy) { p.ChargeOff = 0 }), with(func(p *api.Policy) { p.LateRate = 10001 }),
		with(func(p *api.Policy) { p.LateMin = 5001 }), with(func(p *api.Policy) { p.LateMax = api.MaxFee + 1 }),
		with(func(p *api.Policy) { p.CycleCap = -1 }), with(func(p *api.Policy) { p.LifeCap = -1 }),
		with(func(p *api.Policy) { p.Promises = 9 }), with(func(p *api.Policy) { p.PromiseDays = 0 }),
		with(func(p *api.Policy) { p.Restructures = 5 }), with(func(p *api.Policy) { p.Order = 6 }),
		with(func(p *api.Policy) { p.Rule = 4 }), with(func(p *api.Policy) { p.RetryBase = 0 }),
		with(func(p *api.Policy) { p.RetryCap = 0 }), with(func(p *api.Policy) { p.SnapEvery = 1001 }),
		with(func(p *api.Policy) { p.Holidays = []int{5, 5} }),
	}
}

// 19.10, 19.11, 19.12, 19.15: under a policy that may not be there is no servicer and no reply, be the disk damaged or not.
func TestRefusedPolicy(t *testing.T) {
	damaged := framed("H\x01no state")
	for _, p := range refusedPolicies() {
		if s, why := servicer.New(p); s != nil || why != api.ErrPolicy {
			t.Errorf("19.10: New(%+v) = %v, %d", p, s, why)
		}
		for _, file := range []string{"", "junk", damaged, header(1, api.State{Today: first})} {
			if s, why := servicer.Resume(p, []byte(file), nil); s != nil || why != api.ErrPolicy {
				t.Errorf("19.15: Resume(%+v) = %v, %d", p, s, why)
			}
		}
		for _, text := range []string{"", "today\n", "no command"} {
			if replies, why := servicer.Play(p, []byte(text)); len(replies) > 0 || why != api.ErrPolicy {
				t.Errorf("19.11: Play(%+v) = %v, %d", p, replies, why)
			}
			if got := servicer.Text(p, []byte(text)); got != "" {
				t.Errorf("19.12: Text(%+v) = %q", p, got)
			}
		}
	}
}

// 19.10: a new servicer has an empty portfolio at the first day, a header in its first file, and has made two writes.
func TestNew(t *testing.T) {
	for _, day := range []int{1, first, api.MaxDay} {
		s := begin(t, with(func(p *api.Policy) { p.FirstDay = day }))
		empty := api.State{Today: day}
		want := whole{state: empty, writes: 2, files: [2]string{header(1, empty), ""}}
		if got := s.whole(); !sameWhole(got, want) {
			t.Errorf("19.10: New is %+v, want %+v", got, want)
		}
	}
}

// 19.11, 19.12: no lines, no replies; a text without a line end, remarks and empty lines.
func TestPlayOfLines(t *testing.T) {
	for text, want := range map[string]string{
		"":                            "",
		"\n\n":                        "",
		"# today":                     "",
		"today":                       "ok 738000 0\n",
		"today\n":                     "ok 738000 0\n",
		"\n#\ntoday\n\n#today\ntoday": "ok 738000 0\nok 738000 0\n",
		" ":                           "error 180 0\n",
		"today\r\n":                   "error 180 0\n",
		"day 1\nday x\nday 1":         "ok 738001 0\nerror 182 4\nok 738002 0\n",
		"open 7 1200.00 0 12\ntoday":  "error 181 19\nok 738000 0\n",
		strings.Repeat("x", 101):      "error 1 0\n",
		"calm\nrestart\ncalm":         "ok\nok 1 0 0\nok\n",
	} {
		if got := servicer.Text(example(), []byte(text)); got != want {
			t.Errorf("19.12: Text of %q = %q, want %q", text, got, want)
		}
		replies, why := servicer.Play(example(), []byte(text))
		told := ""
		for _, r := range replies {
			told += script.Show(r) + "\n"
		}
		if why != api.OK || told != want {
			t.Errorf("19.11: Play of %q = %v, %d", text, replies, why)
		}
	}
}

// 19.1: every operation is answered as the engine answers it, its record stands behind the others with a sync for each, and its notices go to the box, at the network's tick.
func TestChanges(t *testing.T) {
	s := begin(t, example())
	e, _ := engine.New(s.p)
	file, writes := header(1, e.Save()), 2
	var box []api.Pending
	does := func(o api.Op) {
		t.Helper()
		before := len(e.Save().Notices)
		want, got := e.Apply(o), s.s.Do(o)
		if want.Err != api.OK || !sameReply(got, want) {
			t.Fatalf("19.1: Do(%+v) = %d %v, want %d %v", o, got.Err, got.Nums, want.Err, want.Nums)
		}
		file += opRecord(o)
		writes += 2
		for _, n := range e.Save().Notices[before:] {
			box = append(box, api.Pending{ID: n.ID, Body: wire.EncodeNotice(n)})
		}
		if got, want := s.whole(), (whole{e.Save(), nil, box, writes, [2]string{file, ""}}); !sameWhole(got, want) {
			t.Fatalf("19.1: behind %+v the servicer is\n%+v, want\n%+v", o, got, want)
		}
	}
	for _, line := range []string{
		"open 7 1200.00 900 12 equal", "open 3 500.00 0 2 level", "open 999999 100.00 0 1 balloon", "day 37", "promise 7 100.00 10", "pay 7 50.00",
		"return 7", "waive 7 1.00", "pay 999999 200.00", "refund 999999 30.00", "restructure 3 6 100", "day 60", "day 1", "pay 7 2.00",
	} {
		does(op(t, line))
	}
	// A payment with a trace number: no line has one, but an operation does, and its record.
	traced := api.Op{Kind: api.OpPay, Loan: 3, Amount: 500, Count: 120001}
	does(traced)
	s.refuses(api.ErrExists, traced)
	// What a kind does not use is not written down.
	o := op(t, "pay 3 1.00")
	o.Rate, o.Days, o.Text = 9, 9, "text"
	does(o)
	if len(box) < 8 || s.s.State().Loans[0].Trace != 120001 {
		t.Errorf("few notices: %v", box)
	}
}

// 19.1: notices that come later lie in the box at the later tick.
func TestNoticesAtNow(t *testing.T) {
	s := begin(t, example())
	s.does("open 7 100.00 0 1 equal", "open 8 100.00 0 1 equal", "tick 5", "pay 7 100.00")
	n := s.s.State().Notices[0]
	want := []api.Pending{{ID: 1, Next: 5, Body: wire.EncodeNotice(n)}}
	if got := s.s.Pending(); !samePending(got, want) {
		t.Errorf("19.1: the box holds %+v, want %+v", got, want)
	}
	s.does("fate xx", "tick 1", "pay 8 100.00")
	want[0].Attempts, want[0].Next = 1, 7
	want = append(want, api.Pending{ID: 2, Next: 6, Body: wire.EncodeNotice(s.s.State().Notices[1])})
	if got := s.s.Pending(); !samePending(got, want) {
		t.Errorf("19.1: the box holds %+v, want %+v", got, want)
	}
}

// 19.1, 19.13, W7: an operation that the engine refuses is answered so, and nothing is written or changed.
func TestChangesRefused(t *testing.T) {
	s := begin(t, example())
	s.does("open 7 1200.00 0 12 equal", "open 8 10.00 0 1 equal", "pay 8 20.00", "day 37", "tick 1")
	s.refuses(api.ErrArg, op(t, "open 0 1.00 0 1 equal"), op(t, "day 0"), op(t, "day 61"), op(t, "day -1"), api.Op{Kind: api.OpPay, Loan: 7, Amount: 1, Count: -1}, op(t, "promise 7 1.00 11"))
	s.refuses(api.ErrExists, op(t, "open 7 1.00 0 1 equal"))
	s.refuses(api.ErrTerms, op(t, "open 1 1.00 0 0 equal"), api.Op{Kind: api.OpOpen, Loan: 1, Amount: 1, Count: 1, Days: 3}, op(t, "restructure 7 121 0"))
	s.refuses(api.ErrNoLoan, op(t, "pay 9 1.00"), op(t, "return 9"), op(t, "refund 9 1.00"), op(t, "waive 9 1.00"), op(t, "promise 9 1.00 1"), op(t, "restructure 9 1 0"), op(t, "loan 9"), op(t, "plan 9"))
	s.refuses(api.ErrAmount, op(t, "pay 7 0.00"), op(t, "pay 7 -1.00"), op(t, "promise 7 0.00 1"))
	s.refuses(api.ErrNoPay, op(t, "return 7"))
	s.refuses(api.ErrFunds, op(t, "refund 7 0.01"), op(t, "waive 7 9.99"))
	s.refuses(api.ErrClosed, op(t, "return 8"), op(t, "promise 8 1.00 1"))
	late := begin(t, with(func(p *api.Policy) { p.FirstDay = api.MaxDay - 1 }))
	late.refuses(api.ErrDate, op(t, "day 2"), op(t, "open 7 1.00 0 1 equal"))
	for i := range 32 {
		late := api.Op{Kind: api.OpOpen, Loan: 100 + i, Amount: 100, Count: 1, Days: 1}
		if i < 30 {
			if r := s.s.Do(late); r.Err != api.OK {
				t.Fatalf("Do(%+v) = %d", late, r.Err)
			}
		} else {
			s.refuses(api.ErrCrowd, late)
		}
	}
}

// 19.2: fewer ticks than one or more than 200 are refused.
func TestTicksRefused(t *testing.T) {
	s := begin(t, example())
	s.does("open 7 100.00 0 1 equal", "pay 7 100.00")
	for _, days := range []int{least, -1, 0, 201, 1000, most} {
		s.refuses(api.ErrArg, api.Op{Kind: api.OpTick, Days: days})
	}
	s.says("tick 200", "ok 2 1 200")
	s.says("tick 1", "ok 0 0 201")
	s.says("tick 199", "ok 0 0 400")
}

// 19.2: of the acknowledgements of a tick those are written down that are news, each once, in the order in which they came first.
func TestOrderOfAcknowledgements(t *testing.T) {
	s := begin(t, with(func(p *api.Policy) { p.RetryBase, p.RetryCap = 64, 64 }))
	s.does("open 1 1.00 0 1 equal", "open 2 1.00 0 1 equal", "open 3 1.00 0 1 equal", "pay 1 1.00", "pay 2 1.00", "pay 3 1.00")
	file := s.files()[0]
	// The notices arrive at the ticks 3, 2 (and 3: doubled), 2; their acknowledgements are handed over in the order 2, 3, 1, 2 and arrive all at tick 4.
	s.does("fate 2d12211")
	s.says("tick 1", "ok 3 0 1")
	s.says("tick 2", "ok 0 0 3")
	if s.files()[0] != file {
		t.Errorf("19.2: without acknowledgements something was written")
	}
	s.says("tick 1", "ok 0 3 4")
	if got, want := s.files()[0], file+ackRecord(2, 3, 1); got != want {
		t.Errorf("19.2: the journal's file is %x, want %x", got, want)
	}
	s.says("notices", "ok 3 3 3")
	if len(s.s.Pending()) != 0 {
		t.Errorf("19.2: what is acknowledged is in the box still: %+v", s.s.Pending())
	}
	s.says("tick 100", "ok 0 0 104")
}

// 19.2: acknowledgements of what is acknowledged already are no news, and nothing is written for them.
func TestAcknowledgedAlready(t *testing.T) {
	s := begin(t, example())
	s.does("open 1 1.00 0 1 equal", "pay 1 1.00")
	s.says("tick 3", "ok 2 1 3")
	before, writes := s.files(), s.s.Writes()
	s.says("tick 1", "ok 0 0 4")
	if s.files() != before || s.s.Writes() != writes || len(s.s.Accepted()) != 1 {
		t.Errorf("19.2: a second acknowledgement makes %d writes", s.s.Writes()-writes)
	}
}

// 19.2: what is sent at a tick: behind the acknowledgements of that tick, by rising ID, with the notice's bytes; each tick's acknowledgements have a record of their own.
func TestSending(t *testing.T) {
	s := begin(t, example())
	s.does("open 1 1.00 0 1 equal", "open 2 1.00 0 1 equal", "pay 1 1.00", "pay 2 1.00")
	notices, file := s.s.State().Notices, s.files()[0]
	// The first notice's sending of tick 1 takes two ticks, the second's one.
	s.does("fate 21")
	s.says("tick 2", "ok 4 0 2")
	s.says("tick 2", "ok 0 2 4")
	want := []api.Accepted{{ID: 2, Tick: 2, Body: wire.EncodeNotice(notices[1])}, {ID: 1, Tick: 3, Body: wire.EncodeNotice(notices[0])}}
	if got := s.s.Accepted(); !sameAccepted(got, want) {
		t.Errorf("19.2: accepted is %+v, want %+v", got, want)
	}
	if got := s.files()[0]; got != file+ackRecord(2)+ackRecord(1) {
		t.Errorf("19.2: the journal's file is %x", got)
	}
}

// 19.3: a snapshot behind every so many records, of operations and of acknowledgements alike.
func TestSnapEvery(t *testing.T) {
	s := begin(t, snapping(3))
	e, _ := engine.New(s.p)
	zero := header(1, e.Save())
	lines := []string{"open 1 100.00 0 1 equal", "open 2 100.00 0 1 equal"}
	for _, line := range lines {
		e.Apply(op(t, line))
		zero += opRecord(op(t, line))
		s.does(line)
	}
	if s.files() != [2]string{zero, ""} {
		t.Errorf("19.3: there is a snapshot behind two records")
	}
	pay := op(t, "pay 1 100.00")
	e.Apply(pay)
	s.does("pay 1 100.00")
	one := header(2, e.Save())
	if s.files() != [2]string{zero + opRecord(pay), one} || s.s.Writes() != 2+3*2+2 {
		t.Errorf("19.3: behind three records there are %d writes, and the files are %x", s.s.Writes(), s.files())
	}
	s.says("restart", "ok 2 0 0")
	s.says("tick 2", "ok 2 0 2")
	s.says("tick 1", "ok 0 1 3")
	if s.files() != [2]string{"", one + ackRecord(1)} {
		t.Errorf("19.3: behind the first record of the epoch the files are %x", s.files())
	}
	s.does("pay 2 1.00", "compact", "pay 2 1.00", "pay 2 1.00")
	s.says("restart", "ok 3 2 0")
	s.does("fate x")
	s.says("day 1", "ok 738001 0")
	s.says("restart", "ok 4 0 0")
}

// 19.3: a snapshot behind every record, and behind ticks: one, whatever number of acknowledgements they brought.
func TestSnapEveryRecord(t *testing.T) {
	s := begin(t, snapping(1))
	s.does("open 1 1.00 0 1 equal", "open 2 1.00 0 1 equal", "pay 1 1.00", "pay 2 1.00", "fate 21")
	s.says("restart", "ok 5 0 0")
	writes := s.s.Writes()
	s.says("tick 4", "ok 4 2 4")
	// Two records of acknowledgements, and then a compaction into the other file, which the restart has cut.
	if got := s.s.Writes() - writes; got != 2*2+2 {
		t.Errorf("19.3: four ticks make %d writes", got)
	}
	s.says("restart", "ok 6 0 0")
	// Ticks that bring nothing find no record, and compact nothing.
	writes = s.s.Writes()
	s.says("tick 9", "ok 0 0 13")
	if s.s.Writes() != writes {
		t.Errorf("19.3: ticks without acknowledgements write")
	}
}

// 19.3: a journal that has more records than the policy lets it have, as a resumed one may: what is refused and what is asked compacts nothing, the next operation that is done does, be it a tick that brings nothing.
func TestSnapLate(t *testing.T) {
	s := begin(t, example())
	s.does("open 1 1.00 0 1 equal", "day 1", "day 1", "day 1")
	a, b := s.s.Files()
	for _, last := range []string{"tick 1", "day 1", "pay 1 0.50"} {
		u := resumed(t, snapping(2), a, b)
		u.refuses(api.ErrArg, op(t, "tick 0"), op(t, "day 0"))
		u.refuses(api.ErrNoLoan, op(t, "pay 2 1.00"))
		u.does("today", "loan 1", "notices", "calm", "fate x", "crash 60 0", "restart")
		if u.s.Writes() != 0 {
			t.Errorf("19.3: a compaction came early")
		}
		u.says("restart", "ok 1 4 0")
		u.does(last)
		u.says("restart", "ok 2 0 0")
	}
}

// 19.4: fates, crashes and calm.
func TestOuterWorld(t *testing.T) {
	s := begin(t, example())
	s.does("open 1 1.00 0 1 equal", "pay 1 1.00")
	s.refuses(api.ErrLong, api.Op{Kind: api.OpFate, Text: strings.Repeat("x", 65)})
	s.refuses(api.ErrFate, op(t, "fate y"), op(t, "fate 12a"), api.Op{Kind: api.OpFate}, op(t, "fate 0"))
	s.refuses(api.ErrArg, op(t, "crash 0 0"), op(t, "crash -1 0"), op(t, "crash 1000001 0"), op(t, "crash 1 -1"), op(t, "crash 1 16777217"))
	before := s.whole()
	for range 64 {
		s.says("fate "+strings.Repeat("x", 64), "ok")
		s.says("crash 1000000 16777216", "ok")
	}
	if !sameWhole(s.whole(), before) {
		t.Errorf("19.13: a fate or a crash that is armed writes")
	}
	s.refuses(api.ErrLong, op(t, "fate 1"), op(t, "crash 1 0"))
	s.says("tick 20", "ok 5 0 20")
	s.says("notices", "ok 1 0 0")
	s.says("calm", "ok")
	s.says("crash 1 0", "ok")
	s.says("calm", "ok")
	s.says("pay 1 1.00", "ok 0 0 0 100 0 9")
	s.says("tick 10", "ok 1 1 30")
	// The fields that these kinds do not use count for nothing.
	for _, o := range []api.Op{{Kind: api.OpCalm, Loan: 5, Count: -5, Days: -5, Text: "?"}, {Kind: api.OpFate, Text: "1", Days: -1, Count: -1}, {Kind: api.OpCrash, Count: 1, Days: 1, Loan: -1, Text: "?"}} {
		if r := s.s.Do(o); !sameReply(r, api.Reply{}) {
			t.Errorf("19.4: Do(%+v) = %v", o, r)
		}
	}
}

// 19.5, 19.6: compact tells the epoch, restart the epoch, the records and the cut; the bytes are those of chapter 7.
func TestCompactAndRestart(t *testing.T) {
	s := begin(t, example())
	s.says("restart", "ok 1 0 0")
	s.does("open 1 1.00 0 1 equal", "pay 1 1.00", "tick 3")
	zero := s.files()[0]
	s.says("restart", "ok 1 3 0")
	writes := s.s.Writes()
	s.says("compact", "ok 2")
	two := header(2, s.s.State())
	if s.files() != [2]string{zero, two} || s.s.Writes() != writes+2 {
		t.Errorf("19.5: compact makes %d writes and leaves %x", s.s.Writes()-writes, s.files())
	}
	s.says("compact", "ok 3")
	three := header(3, s.s.State())
	if s.files() != [2]string{three, two} || s.s.Writes() != writes+5 {
		t.Errorf("19.5: the second compact makes %d writes and leaves %x", s.s.Writes()-writes-2, s.files())
	}
	s.says("restart", "ok 3 0 0")
	if s.files() != [2]string{three, ""} || s.s.Writes() != writes+6 {
		t.Errorf("19.6: restart makes %d writes and leaves %x", s.s.Writes()-writes-5, s.files())
	}
	s.does("day 2")
	s.says("restart", "ok 3 1 0")
	if s.files() != [2]string{three + opRecord(op(t, "day 2")), ""} || s.s.Writes() != writes+8 {
		t.Errorf("19.6: a restart with nothing to cut writes")
	}
	s.says("notices", "ok 1 1 1")
}

// 19.6, 19.14: a restart begins the box anew, and changes nothing else.
func TestRestartBeginsTheBoxAnew(t *testing.T) {
	s := begin(t, example())
	s.does("open 1 1.00 0 1 equal", "open 2 1.00 0 1 equal", "pay 1 1.00", "tick 3", "pay 2 1.00", "fate "+strings.Repeat("x", 9), "tick 20")
	before := s.whole()
	if p := before.pending; len(p) != 1 || p[0].Attempts < 3 {
		t.Fatalf("the box holds %+v", p)
	}
	s.says("restart", "ok 1 5 0")
	before.pending[0].Attempts, before.pending[0].Next = 0, 23
	if got := s.whole(); !sameWhole(got, before) {
		t.Errorf("19.14: behind a restart the servicer is\n%+v, want\n%+v", got, before)
	}
	// A restart forgets neither fates nor what flies.
	s.says("tick 2", "ok 2 0 25")
	s.does("calm", "restart")
	s.says("tick 4", "ok 2 1 29")
}

// 19.7: queries are answered as the engine answers them, and notices with what the receiver has; they write nothing.
func TestQueries(t *testing.T) {
	s := begin(t, snapping(1))
	s.does("open 7 1200.00 900 12 equal", "open 3 500.00 0 2 level", "open 5 1.00 0 1 equal", "pay 5 1.00", "day 37", "fate xx1", "tick 3")
	e, why := engine.Load(s.p, s.s.State())
	if why != api.OK {
		t.Fatalf("15.2: Load = %d", why)
	}
	before := s.whole()
	for _, line := range []string{"loan 7", "loan 3", "loan 5", "plan 7", "plan 3", "plan 5", "books", "aging", "timers", "today"} {
		o := op(t, line)
		if got, want := s.s.Do(o), e.Ask(o); want.Err != api.OK || len(want.Nums) == 0 || !sameReply(got, want) {
			t.Errorf("19.7: %q is answered %d %v, want %d %v", line, got.Err, got.Nums, want.Err, want.Nums)
		}
	}
	if got := s.s.Do(op(t, "notices")); !slices.Equal(got.Nums, []int64{5, 3, int64(len(before.accepted))}) || len(before.accepted) == 3 {
		t.Errorf("19.7: notices = %v, accepted %d", got.Nums, len(before.accepted))
	}
	if !sameWhole(s.whole(), before) {
		t.Errorf("19.13: a query changes something")
	}
	s.refuses(api.ErrNoLoan, op(t, "loan 1"), op(t, "plan 1"), op(t, "loan 0"))
}

// 19.7: books that do not fit are refused as the engine refuses them.
func TestQueryRefused(t *testing.T) {
	s := begin(t, example())
	s.does("open 1 1.00 0 1 equal", "open 2 1.00 0 1 equal", "pay 1 92233720368547757.00", "pay 2 92233720368547757.00")
	s.refuses(api.ErrRange, op(t, "books"))
}

// 19.8: any other kind is refused.
func TestNoKind(t *testing.T) {
	s := begin(t, snapping(1))
	s.does("open 1 1.00 0 1 equal")
	for _, kind := range []int{least, -1 << 32, -21, -1, 0, 22, 23, 255, 257, 1<<32 + 1, 1<<32 + 8, most} {
		s.refuses(api.ErrKind, api.Op{Kind: kind}, api.Op{Kind: kind, Loan: 1, Amount: 1, Rate: 1, Count: 1, Days: 1, Text: "x"})
	}
}
