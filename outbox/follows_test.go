package outbox_test

import (
	"fmt"
	"math/rand"
	"slices"
	"testing"

	"arrears/api"
	"arrears/outbox"
)

// gaps are the ticks between the sendings of a notice that is asked for at each tick.
func gaps(base, limit, count int) []int {
	list := []int{base}
	for len(list) < count {
		list = append(list, min(2*list[len(list)-1], limit))
	}
	return list
}

// sentAt are the ticks at which a box that is asked so many ticks in a row sends this notice.
func sentAt(b *outbox.Box, id, from, count int) []int {
	var list []int
	for i := range count {
		for _, p := range b.Due(from + i) {
			if p.ID == id {
				list = append(list, from+i)
			}
		}
	}
	return list
}

// 17.6: of every base with every cap: sent at the tick of its Add, then RetryBase ticks later, then twice as many, never more than RetryCap; and never again behind its Ack.
func TestGapsOfEachPair(t *testing.T) {
	for base := 1; base <= 64; base++ {
		for limit := base; limit <= 64; limit++ {
			from := base*1000 - 32000 - limit
			want, span := []int{from}, 0
			for _, gap := range gaps(base, limit, 9) {
				span += gap
				want = append(want, from+span)
			}
			b := outbox.New(retry(base, limit))
			adds(t, b, 5, "a", from, api.OK)
			if got := sentAt(b, 5, from, span+1); !slices.Equal(got, want) {
				t.Fatalf("17.6: base %d, cap %d: sent at %v, want %v", base, limit, got, want)
			}
			acks(t, b, 5, true)
			if got := sentAt(b, 5, from+span+1, 200); len(got) != 0 {
				t.Fatalf("17.6: base %d, cap %d: sent at %v, behind its Ack", base, limit, got)
			}
		}
	}
}

// watch counts the ticks in a row, up to the last one, at each of which a notice was asked for and not sent.
type watch struct{ tick, unsent int }

func (w *watch) asked(now int, sent bool) {
	switch {
	case sent:
		w.unsent = 0
	case now == w.tick+1:
		w.unsent++
	case now > w.tick+1: // ticks were left out: the row begins here
		w.unsent = 1
	}
	w.tick = now
}

// watched is a box with a watch on each of its notices.
type watched struct {
	b       *outbox.Box
	watches map[int]*watch
}

// stirs adds a notice at this tick, or takes one out, now and then.
func (w *watched) stirs(random *rand.Rand, now int) {
	id := 1 + random.Intn(8)
	switch random.Intn(15) {
	case 0, 1:
		if w.b.Add(id, nil, now) == api.OK {
			w.watches[id] = &watch{tick: now}
		}
	case 2:
		w.b.Ack(id)
		delete(w.watches, id)
	}
}

// asked asks the box at this tick, and answers the longest time for which one of its notices has not been sent.
func (w *watched) asked(now int) int {
	packets, longest := w.b.Due(now), 0
	for id, one := range w.watches {
		one.asked(now, slices.ContainsFunc(packets, func(p api.Packet) bool { return p.ID == id }))
		longest = max(longest, one.unsent)
	}
	return longest
}

// onward is some ticks behind this one: mostly the next, now and then the same, or some are left out.
func onward(random *rand.Rand, now, limit int) int {
	if random.Intn(25) == 0 {
		return now + random.Intn(2*limit)
	}
	return now + 1
}

// 17.6: while ticks do not go back, a notice that stays in the box is sent at least once in any RetryCap ticks in a row at each of which Due is asked, whatever went ahead of them.
func TestNeverLongUnsent(t *testing.T) {
	random := rand.New(rand.NewSource(1706))
	longest := 0
	for range 400 {
		limit := 1 + random.Intn(20)
		w := &watched{b: outbox.New(retry(1+random.Intn(limit), limit)), watches: map[int]*watch{}}
		now := random.Intn(1000) - 500
		for range 300 {
			now = onward(random, now, limit)
			w.stirs(random, now)
			unsent := w.asked(now)
			if unsent >= limit {
				t.Fatalf("17.6: cap %d: at tick %d a notice is not sent for %d ticks in a row", limit, now, unsent)
			}
			longest = max(longest, unsent)
		}
	}
	if longest != 19 {
		t.Errorf("too few of a kind: a notice was unsent for at most %d ticks", longest)
	}
}

// 17.6: the bound is met: behind many sendings RetryCap - 1 ticks in a row go by without one.
func TestBoundIsMet(t *testing.T) {
	for limit := 1; limit <= 64; limit++ {
		b := outbox.New(retry(1, limit))
		adds(t, b, 1, "a", 0, api.OK)
		at := sentAt(b, 1, 0, 1000)
		widest := 0
		for i := range at[1:] {
			widest = max(widest, at[i+1]-at[i])
		}
		if widest != limit {
			t.Errorf("17.6: cap %d: at most %d ticks between two sendings", limit, widest)
		}
	}
}

// alone are boxes that hold one notice each, by its ID.
type alone map[int]*outbox.Box

// due asks all of them, by rising ID.
func (a alone) due(now, ids int) []api.Packet {
	var list []api.Packet
	for id := range ids + 1 {
		if b := a[id]; b != nil {
			list = append(list, b.Due(now)...)
		}
	}
	return list
}

// 17.6: each notice is sent as if it were alone in the box, in rows of any ticks.
func TestAsIfAlone(t *testing.T) {
	random := rand.New(rand.NewSource(1707))
	const ids = 12
	sent := 0
	for range 200 {
		limit := 1 + random.Intn(64)
		p := retry(1+random.Intn(limit), limit)
		b, each := outbox.New(p), alone{}
		for id := range ids + 1 {
			each[id] = outbox.New(p)
		}
		for _, s := range chosen(random, ids, 200) {
			var got, want string
			switch s.call {
			case "add":
				got, want = fmt.Sprint(b.Add(s.id, []byte(s.body), s.now)), fmt.Sprint(each[s.id].Add(s.id, []byte(s.body), s.now))
			case "ack":
				got, want = fmt.Sprint(b.Ack(s.id)), fmt.Sprint(each[s.id].Ack(s.id))
			default:
				packets := b.Due(s.now)
				sent += len(packets)
				got, want = fmt.Sprint(packets), fmt.Sprint(each.due(s.now, ids))
			}
			if got != want {
				t.Fatalf("17.6: %v: together %s, alone %s", s, got, want)
			}
		}
	}
	if sent < 5000 {
		t.Errorf("too few of a kind: %d packets", sent)
	}
}
