package servicer_test

import (
	"fmt"
	"math/rand"
	"slices"
	"testing"

	"arrears/api"
	"arrears/engine"
	"arrears/frame"
	"arrears/network"
	"arrears/script"
	"arrears/servicer"
	"arrears/wire"
)

// modelFile is a file that is nothing but bytes.
type modelFile struct {
	durable, pending string
}

// model is a servicer as the chapter's words tell it. Its disk is nothing but bytes, and it never reads them: its portfolio lives on through every crash, and an operation is done if, and only if, the bytes of its record are durable to the last.
type model struct {
	p      api.Policy
	files  [2]modelFile
	armed  [][2]int // of each crash that waits: after how many writes, with how many bytes kept
	writes int
	net    *network.Net

	at, good     int // the journal's file, and where its last whole frame ends
	epoch, count int
	e            *engine.Engine
	box          []api.Pending
}

// newModel is a servicer on an empty disk.
func newModel(t *testing.T, p api.Policy) *model {
	t.Helper()
	e, why := engine.New(p)
	if why != api.OK {
		t.Fatalf("15.1: New = %d", why)
	}
	m := &model{p: p, net: network.New(), epoch: 1, e: e, writes: 2}
	m.files[0].durable = header(1, e.Save())
	m.good = len(m.files[0].durable)
	return m
}

// framed is a frame with this payload.
func framed(payload string) string {
	told, ok := frame.Encode([]byte(payload))
	if !ok {
		panic("a payload that is too long")
	}
	return string(told)
}

// header is the frame that begins an epoch with this portfolio.
func header(epoch int, s api.State) string {
	return framed("H" + string(wire.PutUint(uint64(epoch))) + string(wire.EncodeState(s)))
}

// recordOf is the frame of a record.
func recordOf(r api.Record) string { return framed("R" + string(wire.EncodeRecord(r))) }

// opRecord is the frame of an operation's record.
func opRecord(o api.Op) string { return recordOf(api.Record{Kind: api.RecordOp, Op: o}) }

// ackRecord is the frame of a record of acknowledgements.
func ackRecord(ids ...int) string { return recordOf(api.Record{Kind: api.RecordAcks, Acked: ids}) }

// write makes a write; false if the disk goes down at it, and then it does not do its work.
func (m *model) write(work func()) bool {
	m.writes++
	if len(m.armed) > 0 {
		m.armed[0][0]--
		if m.armed[0][0] == 0 {
			m.goDown()
			return false
		}
	}
	work()
	return true
}

// goDown keeps, of what is pending, what the first crash says.
func (m *model) goDown() {
	keep := m.armed[0][1]
	m.armed = m.armed[1:]
	for i := range m.files {
		f := &m.files[i]
		f.durable += f.pending[:min(keep, len(f.pending))]
		f.pending = ""
	}
}

// lay appends a frame and syncs; false if the disk goes down.
func (m *model) lay(file int, framed string) bool {
	f := &m.files[file]
	f.pending += framed
	return m.write(func() {}) && m.write(func() { f.durable, f.pending = f.durable+f.pending, "" })
}

// cut cuts a file, if it is longer; false if the disk goes down.
func (m *model) cut(file, size int) bool {
	f := &m.files[file]
	return len(f.durable) == size || m.write(func() { f.durable = f.durable[:size] })
}

// record writes a record down, and does what it says if it is durable; false if the disk goes down.
func (m *model) record(r api.Record, do func()) bool {
	told := recordOf(r)
	held := m.lay(m.at, told)
	if len(m.files[m.at].durable) == m.good+len(told) {
		m.good += len(told)
		m.count++
		do()
	}
	return held
}

// compacts begins the next epoch; false if the disk goes down.
func (m *model) compacts() bool {
	told, other := header(m.epoch+1, m.e.Save()), 1-m.at
	held := m.cut(other, 0) && m.lay(other, told)
	if m.files[other].durable == told {
		m.at, m.good, m.epoch, m.count = other, len(told), m.epoch+1, 0
	}
	return held
}

// snaps compacts where the policy asks for it; false if the disk goes down.
func (m *model) snaps() bool {
	return m.p.SnapEvery == 0 || m.count < m.p.SnapEvery || m.compacts()
}

// recovers begins the box anew, and tells how many torn bytes were cut off; false if the disk goes down.
func (m *model) recovers() (int, bool) {
	torn := len(m.files[m.at].durable) - m.good
	if !m.cut(m.at, m.good) || !m.cut(1-m.at, 0) {
		return 0, false
	}
	m.box = nil
	m.laysIn(m.e.Unacknowledged())
	return torn, true
}

func (m *model) laysIn(list []api.Notice) {
	for _, n := range list {
		m.box = append(m.box, api.Pending{ID: n.ID, Next: m.net.Now(), Body: wire.EncodeNotice(n)})
	}
}

// does does an operation.
func (m *model) does(o api.Op) api.Reply {
	r, held := m.serves(o)
	if held {
		return r
	}
	downs := 1
	for _, held := m.recovers(); !held; _, held = m.recovers() {
		downs++
	}
	return api.Reply{Err: api.ErrCrashed, Nums: []int64{int64(downs), int64(m.count), int64(m.epoch)}}
}

// serves does an operation; false if the disk goes down.
func (m *model) serves(o api.Op) (api.Reply, bool) {
	switch o.Kind {
	case api.OpOpen, api.OpPay, api.OpReturn, api.OpRefund, api.OpWaive, api.OpPromise, api.OpRestructure, api.OpDay:
		return m.changes(o)
	case api.OpTick:
		return m.ticks(o.Days)
	case api.OpFate:
		return api.Reply{Err: m.net.Fate(o.Text)}, true
	case api.OpCalm:
		m.net.Calm()
		m.armed = nil
		return api.Reply{}, true
	case api.OpCrash:
		return api.Reply{Err: m.arms(o.Count, o.Days)}, true
	case api.OpCompact:
		held := m.compacts()
		return api.Reply{Nums: []int64{int64(m.epoch)}}, held
	case api.OpRestart:
		torn, held := m.recovers()
		return api.Reply{Nums: []int64{int64(m.epoch), int64(m.count), int64(torn)}}, held
	case api.OpNotices:
		return api.Reply{Nums: append(m.e.Ask(o).Nums, int64(len(m.net.Accepted())))}, true
	case api.OpLoan, api.OpPlan, api.OpBooks, api.OpAging, api.OpTimers, api.OpToday:
		return m.e.Ask(o), true
	}
	return api.Reply{Err: api.ErrKind}, true
}

func (m *model) arms(after, keep int) api.Errno {
	if after < 1 || after > 1000000 || keep < 0 || keep > 1<<24 {
		return api.ErrArg
	}
	if len(m.armed) == 64 {
		return api.ErrLong
	}
	m.armed = append(m.armed, [2]int{after, keep})
	return api.OK
}

func (m *model) changes(o api.Op) (api.Reply, bool) {
	if why := m.e.Check(o); why != api.OK {
		return api.Reply{Err: why}, true
	}
	var r api.Reply
	before := len(m.e.Save().Notices)
	if !m.record(api.Record{Kind: api.RecordOp, Op: o}, func() { r = m.e.Apply(o) }) {
		return api.Reply{}, false
	}
	m.laysIn(m.e.Save().Notices[before:])
	return r, m.snaps()
}

func (m *model) ticks(count int) (api.Reply, bool) {
	if count < 1 || count > 200 {
		return api.Reply{Err: api.ErrArg}, true
	}
	sent, acknowledged := 0, 0
	for range count {
		ids := m.owed(m.net.Tick())
		acknowledged += len(ids)
		if len(ids) > 0 && !m.record(api.Record{Kind: api.RecordAcks, Acked: ids}, func() { m.acknowledges(ids) }) {
			return api.Reply{}, false
		}
		sent += m.sends()
	}
	return api.Reply{Nums: []int64{int64(sent), int64(acknowledged), int64(m.net.Now())}}, m.snaps()
}

// owed are those of the IDs, each once, that are owed and not acknowledged.
func (m *model) owed(ids []int) []int {
	var list []int
	for _, id := range ids {
		owed := slices.ContainsFunc(m.e.Save().Notices, func(n api.Notice) bool { return n.ID == id && !n.Acked })
		if owed && !slices.Contains(list, id) {
			list = append(list, id)
		}
	}
	return list
}

func (m *model) acknowledges(ids []int) {
	for _, id := range ids {
		m.e.Acknowledge(id)
	}
	m.box = slices.DeleteFunc(m.box, func(p api.Pending) bool { return slices.Contains(ids, p.ID) })
}

// sends sends what is due.
func (m *model) sends() int {
	sent, now := 0, m.net.Now()
	for i := range m.box {
		p := &m.box[i]
		if p.Next > now {
			continue
		}
		m.net.Send(api.Packet{ID: p.ID, Body: p.Body})
		wait := m.p.RetryBase
		for range p.Attempts {
			wait = min(2*wait, m.p.RetryCap)
		}
		p.Attempts++
		p.Next = now + min(wait, m.p.RetryCap)
		sent++
	}
	return sent
}

// whole is all that can be seen of the servicer.
func (m *model) whole() whole {
	return whole{m.e.Save(), m.net.Accepted(), m.box, m.writes, [2]string{m.files[0].durable, m.files[1].durable}}
}

// among draws one of a list.
func among[T any](random *rand.Rand, list ...T) T { return list[random.Intn(len(list))] }

// anyPolicy draws a policy under which much happens.
func anyPolicy(random *rand.Rand) api.Policy {
	grace := random.Intn(8)
	base := 1 + random.Intn(4)
	return api.Policy{
		FirstDay: first, Grace: grace, NonAccrual: grace + 1 + random.Intn(40), ChargeOff: 1 + random.Intn(200),
		LateRate: among[int64](random, 0, 500, 3000), LateMin: among[int64](random, 0, 700), LateMax: among[int64](random, 700, 5000),
		CycleCap: among[int64](random, 0, 1500, 10000), LifeCap: among[int64](random, 2000, 20000),
		Promises: random.Intn(4), PromiseDays: 1 + random.Intn(30), Restructures: random.Intn(4),
		Order: random.Intn(6), Rule: random.Intn(4), RetryBase: base, RetryCap: base + random.Intn(12),
		SnapEvery: among(random, 0, 0, 1, 2, 3, 7, 20), Holidays: among(random, nil, []int{first + 31, first + 32, first + 62}),
	}
}

// change draws an operation on the portfolio.
func change(random *rand.Rand) api.Op {
	loan := among(random, 1, 2, 3, 4, 1+random.Intn(20))
	amount := among(random, 1, 50, 700, 5000, 10000, 12345, 40000, random.Int63n(3000), random.Int63n(30000), random.Int63n(600000), -random.Int63n(6))
	switch random.Intn(20) {
	case 0, 1, 2:
		return api.Op{Kind: api.OpOpen, Loan: loan, Amount: among[int64](random, 30000, 120000, 3650000), Rate: among[int64](random, 0, 900, 3650), Count: among(random, 1, 2, 6, 12, 24), Days: random.Intn(3)}
	case 3, 4, 5, 6, 7:
		return api.Op{Kind: api.OpPay, Loan: loan, Amount: amount, Count: among(random, 0, 0, 0, 1+random.Intn(9))}
	case 8, 9:
		return api.Op{Kind: api.OpReturn, Loan: loan}
	case 10:
		return api.Op{Kind: api.OpRefund, Loan: loan, Amount: amount}
	case 11:
		return api.Op{Kind: api.OpWaive, Loan: loan, Amount: among(random, 1, 50, 300, amount)}
	case 12:
		return api.Op{Kind: api.OpPromise, Loan: loan, Amount: amount, Days: 1 + random.Intn(20)}
	case 13:
		return api.Op{Kind: api.OpRestructure, Loan: loan, Count: 1 + random.Intn(12), Rate: among[int64](random, 0, 500)}
	}
	return api.Op{Kind: api.OpDay, Days: among(random, 1, 2, 3, 5, 8, 13, 31, 0, 60, 61)}
}

// letters draws fates.
func letters(random *rand.Rand, all string) string {
	text := make([]byte, 1+random.Intn(20))
	for i := range text {
		text[i] = all[random.Intn(len(all))]
	}
	return string(text)
}

// anyOp draws an operation of any kind.
func anyOp(random *rand.Rand) api.Op {
	switch random.Intn(30) {
	case 0, 1, 2, 3:
		return api.Op{Kind: api.OpTick, Days: among(random, 1, 1, 1, 2, 3, 5, 20, 0, 201)}
	case 4, 5:
		return api.Op{Kind: api.OpFate, Text: letters(random, among(random, "x", "xd1", "123456789d", "x1y"))}
	case 6, 7, 8, 12:
		return api.Op{Kind: api.OpCrash, Count: among(random, 1, 1, 2, 2, 3, 4, 5, 9, 0), Days: among(random, 0, 1, 5, 11, 12, 13, 14, 15, 16, 17, 18, 30, 200, 5000, -1)}
	case 9:
		return api.Op{Kind: among(random, api.OpCalm, api.OpCompact, api.OpCompact, api.OpRestart, api.OpRestart)}
	case 10:
		return api.Op{Kind: api.OpLoan + random.Intn(7), Loan: 1 + random.Intn(4)}
	case 11:
		return api.Op{Kind: among(random, 0, -1, 22, least, most, 1<<32+2), Loan: 1, Amount: 1, Days: 1}
	}
	return change(random)
}

// holds holds a servicer to the model, behind an operation.
func (s *story) holds(m *model, o api.Op) api.Reply {
	s.t.Helper()
	want := m.does(o)
	got := s.s.Do(o)
	if !sameReply(got, want) {
		s.t.Fatalf("19: Do(%+v) = %d %v, want %d %v", o, got.Err, got.Nums, want.Err, want.Nums)
	}
	if a, b := s.whole(), m.whole(); !sameWhole(a, b) {
		s.t.Fatalf("19: behind %+v the servicer is\n%+v\nwant\n%+v", o, a, b)
	}
	return got
}

// 19.1 to 19.9, 19.13, 19.14: drawn operations of all kinds under drawn policies: replies, portfolio, box, receiver, writes and bytes are the model's.
func TestAgainstModel(t *testing.T) {
	t.Parallel()
	random := rand.New(rand.NewSource(1901))
	met := map[string]int{}
	for range 400 {
		p := anyPolicy(random)
		s, m := begin(t, p), newModel(t, p)
		for range 130 {
			o := anyOp(random)
			epoch := m.epoch
			r := s.holds(m, o)
			switch {
			case r.Err == api.OK:
				met[fmt.Sprint("kind ", o.Kind)]++
			case r.Err == api.ErrCrashed && r.Nums[0] > 1:
				met["crashed again"]++
			case r.Err == api.ErrCrashed && m.epoch > epoch:
				met["crashed behind its compaction"]++
			case r.Err == api.ErrCrashed:
				met["crashed"]++
			}
			if random.Intn(10) == 0 && !sameState(s.again().s.State(), m.e.Save()) {
				t.Fatalf("19.16: behind %+v a servicer that is resumed has another portfolio", o)
			}
		}
		met["accepted"] += len(s.s.Accepted())
	}
	for kind := 1; kind <= 21; kind++ {
		if met[fmt.Sprint("kind ", kind)] < 20 {
			t.Errorf("few operations of the kind %d: %v", kind, met)
		}
	}
	if met["crashed"] < 2000 || met["crashed again"] < 200 || met["crashed behind its compaction"] < 50 || met["accepted"] < 2000 {
		t.Errorf("little happened: %v", met)
	}
}

// anyLine draws a line, often one that is ill-made.
func anyLine(random *rand.Rand) string {
	line, ok := script.Format(anyOp(random))
	switch random.Intn(12) {
	case 0:
		return among(random, "", "#", "# today", " today", "today ", "pay 7", "pay  7 1.00", "fate", "fate \xff\x00", "open 1 1.00 0 1 Level", "\r", "pay 1 1.0")
	case 1:
		spoilt := []byte(line + " ")
		spoilt[random.Intn(len(spoilt))] = byte(random.Intn(256))
		return string(spoilt)
	}
	if !ok {
		return "today"
	}
	return line
}

// W1, 19.11, 19.12: scripts of drawn lines, ill-made ones among them: a reply for each command line, in their order, of the model.
func TestPlayAgainstModel(t *testing.T) {
	t.Parallel()
	random := rand.New(rand.NewSource(1911))
	faults := 0
	for range 400 {
		p := anyPolicy(random)
		var text []byte
		for range random.Intn(60) {
			text = append(text, anyLine(random)+among(random, "\n", "\n", "\n\n")...)
		}
		m := newModel(t, p)
		var want []api.Reply
		told := ""
		for _, line := range script.Lines(text) {
			o, why, place := script.Parse(line)
			r := api.Reply{Err: why, Nums: []int64{int64(place)}}
			if why == api.OK {
				r = m.does(o)
			} else {
				faults++
			}
			want = append(want, r)
			told += script.Show(r) + "\n"
		}
		got, why := servicer.Play(p, text)
		if why != api.OK || !slices.EqualFunc(got, want, sameReply) {
			t.Fatalf("19.11: Play of %q answers %v, %d, want %v", text, got, why, want)
		}
		if got := servicer.Text(p, text); got != told {
			t.Fatalf("19.12: Text of %q answers %q, want %q", text, got, told)
		}
	}
	if faults < 500 {
		t.Errorf("few lines were ill-made: %d", faults)
	}
}

// W1: any bytes are played.
func TestPlayOfAnyBytes(t *testing.T) {
	random := rand.New(rand.NewSource(1912))
	for range 2000 {
		text := make([]byte, random.Intn(300))
		for i := range text {
			text[i] = among(random, byte(random.Intn(256)), '\n', ' ', '1', '#', 'd')
		}
		replies, why := servicer.Play(example(), text)
		if lines := script.Lines(text); why != api.OK || len(replies) != len(lines) {
			t.Fatalf("W1: Play of %q answers %d replies, %d", text, len(replies), why)
		}
	}
}
