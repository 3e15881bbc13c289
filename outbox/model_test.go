package outbox_test

import (
	"fmt"
	"math/big"
	"math/rand"
	"slices"
	"testing"

	"arrears/api"
	"arrears/outbox"
)

// laid is a notice that a model holds, with all the ticks at which it was sent.
type laid struct {
	id    int
	added int
	body  string
	sent  []int
}

// model is a box as the chapter's words say it: it remembers when each notice was sent, and reckons from that anew at every question.
type model struct {
	base, limit int
	notices     []laid // by rising ID
}

// wait is the ticks behind the sending of that number, doubled step by step; a model with no base is one of a policy that may not be.
func (m *model) wait(sending int) int {
	ticks := m.base
	for range sending - 1 {
		ticks = min(2*ticks, m.limit)
	}
	return ticks
}

// next is the tick from which on a notice is to be sent.
func (m *model) next(n laid) int {
	if len(n.sent) == 0 {
		return n.added
	}
	sum := big.NewInt(int64(n.sent[len(n.sent)-1]))
	sum.Add(sum, big.NewInt(int64(m.wait(len(n.sent)))))
	if !sum.IsInt64() {
		return last
	}
	return int(sum.Int64())
}

func (m *model) place(id int) int {
	return slices.IndexFunc(m.notices, func(n laid) bool { return n.id == id })
}

func (m *model) add(id int, body string, now int) api.Errno {
	switch {
	case id < 1:
		return api.ErrArg
	case m.place(id) >= 0:
		return api.ErrKey
	}
	at := 0
	for at < len(m.notices) && m.notices[at].id < id {
		at++
	}
	m.notices = slices.Insert(m.notices, at, laid{id: id, added: now, body: body})
	return api.OK
}

func (m *model) ack(id int) bool {
	at := m.place(id)
	if at >= 0 {
		m.notices = slices.Delete(m.notices, at, at+1)
	}
	return at >= 0
}

func (m *model) due(now int) []api.Packet {
	var list []api.Packet
	for i, n := range m.notices {
		if m.next(n) <= now {
			list = append(list, packet(n.id, n.body))
			m.notices[i].sent = append(m.notices[i].sent, now)
		}
	}
	return list
}

func (m *model) pending() []api.Pending {
	var list []api.Pending
	for _, n := range m.notices {
		list = append(list, pending(n.id, len(n.sent), m.next(n), n.body))
	}
	return list
}

// step is one call: an add, an ack, or a due.
type step struct {
	call    string
	id, now int
	body    string
}

// do does a step on box and model, and tells both answers.
func do(b *outbox.Box, m *model, s step) (got, want string) {
	switch s.call {
	case "add":
		return fmt.Sprint(b.Add(s.id, []byte(s.body), s.now)), fmt.Sprint(m.add(s.id, s.body, s.now))
	case "ack":
		return fmt.Sprint(b.Ack(s.id)), fmt.Sprint(m.ack(s.id))
	}
	return fmt.Sprint(b.Due(s.now)), fmt.Sprint(m.due(s.now))
}

// play does steps on a box under waits of base and limit and on a model, and holds all answers against each other.
func play(t *testing.T, base, limit int, steps []step) {
	t.Helper()
	b, m := outbox.New(retry(base, limit)), &model{base: base, limit: limit}
	if base == 0 {
		m.limit = 0
	}
	for i, s := range steps {
		got, want := do(b, m, s)
		list, held := b.Pending(), m.pending()
		if got != want || !slices.EqualFunc(list, held, samePending) {
			t.Fatalf("17.1 to 17.5: base %d, cap %d: behind %v: %s, holds %v, want %s, holds %v", base, limit, steps[:i+1], got, list, want, held)
		}
	}
}

// 17.1 to 17.5: every row of five steps, of a small set.
func TestAllShortRows(t *testing.T) {
	set := []step{
		{call: "add", id: 1, now: 0, body: "a"},
		{call: "add", id: 1, now: 2, body: "b"},
		{call: "add", id: 2, now: 1, body: "c"},
		{call: "add", id: 0, now: 0, body: "d"},
		{call: "ack", id: 1},
		{call: "ack", id: 2},
		{call: "due", now: 0},
		{call: "due", now: 1},
		{call: "due", now: 2},
		{call: "due", now: 3},
	}
	var row []step
	var longer func()
	longer = func() {
		if len(row) == 5 {
			play(t, 1, 2, row)
			return
		}
		for _, s := range set {
			row = append(row, s)
			longer()
			row = row[:len(row)-1]
		}
	}
	longer()
}

// ticks goes on from a tick: mostly a little, now and then back or far away.
func ticks(random *rand.Rand, now int) int {
	switch random.Intn(40) {
	case 0:
		return []int{first, first + 1, -1, 0, last - 40, last - 1, last}[random.Intn(7)]
	case 1:
		return now - random.Intn(100)
	}
	return now + random.Intn(6)
}

// chosen is a row of steps by lot, of IDs from 0 to some number.
func chosen(random *rand.Rand, ids, length int) []step {
	var row []step
	now := 0
	for range length {
		now = ticks(random, now)
		s := step{call: "due", id: random.Intn(ids + 1), now: now, body: fmt.Sprint(random.Intn(1000))}
		switch random.Intn(10) {
		case 0, 1, 2:
			s.call = "add"
		case 3:
			s.call = "ack"
		}
		row = append(row, s)
	}
	return row
}

// 17.1 to 17.5: long rows of steps, of few IDs that meet often and of many, under waits of every kind, and under policies that may not be.
func TestLongRows(t *testing.T) {
	random := rand.New(rand.NewSource(1702))
	for run := range 600 {
		limit := 1 + random.Intn(64)
		play(t, random.Intn(limit+1), limit, chosen(random, 1+run%30, 200))
	}
}
