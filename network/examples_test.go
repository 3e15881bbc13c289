package network_test

import (
	"slices"
	"strings"
	"testing"

	"arrears/api"
	"arrears/network"
)

func send(n *network.Net, id int, body string) { n.Send(api.Packet{ID: id, Body: []byte(body)}) }

func fates(t *testing.T, n *network.Net, letters string, want api.Errno) {
	t.Helper()
	if got := n.Fate(letters); got != want {
		t.Errorf("16.3: Fate(%q) = %d, want %d", letters, got, want)
	}
}

// ticks holds one Tick to the numbers of the acknowledgements that come in.
func ticks(t *testing.T, n *network.Net, want ...int) {
	t.Helper()
	before := n.Now()
	if got := n.Tick(); !slices.Equal(got, want) {
		t.Errorf("16.6: Tick %d answers %v, want %v", before+1, got, want)
	}
	if got := n.Now(); got != before+1 {
		t.Errorf("16.7: behind a Tick at %d now is %d", before, got)
	}
}

// stands holds Now and Flying to these numbers.
func stands(t *testing.T, n *network.Net, now, flying int) {
	t.Helper()
	if n.Now() != now || n.Flying() != flying {
		t.Errorf("16.7: now %d, flying %d, want %d, %d", n.Now(), n.Flying(), now, flying)
	}
}

func accepted(id, tick int, body string) api.Accepted {
	return api.Accepted{ID: id, Tick: tick, Body: []byte(body)}
}

func sameAccepted(a, b api.Accepted) bool {
	return a.ID == b.ID && a.Tick == b.Tick && string(a.Body) == string(b.Body)
}

// has holds what the receiver has accepted to this list.
func has(t *testing.T, n *network.Net, want ...api.Accepted) {
	t.Helper()
	if got := n.Accepted(); !slices.EqualFunc(got, want, sameAccepted) {
		t.Errorf("16.7: accepted %v, want %v", got, want)
	}
}

// fated is a new network on which these fates wait.
func fated(t *testing.T, letters string) *network.Net {
	t.Helper()
	n := network.New()
	fates(t, n, letters, api.OK)
	return n
}

// The chapter's examples, row by row, on one network.
func TestExamples(t *testing.T) {
	n := network.New()
	fates(t, n, "", api.ErrFate)
	fates(t, n, "12y", api.ErrFate)
	fates(t, n, strings.Repeat("1", 65), api.ErrLong)
	fates(t, n, "x2d1", api.OK)

	send(n, 7, "a")
	stands(t, n, 0, 0)
	send(n, 7, "a")
	stands(t, n, 0, 1)
	send(n, 8, "b")
	stands(t, n, 0, 3)

	ticks(t, n)
	stands(t, n, 1, 3)
	has(t, n, accepted(8, 1, "b"))
	ticks(t, n, 8)
	stands(t, n, 2, 2)
	has(t, n, accepted(8, 1, "b"), accepted(7, 2, "a"))
	ticks(t, n, 7, 8)
	stands(t, n, 3, 0)

	fates(t, n, "xx", api.OK)
	n.Calm()
	send(n, 9, "c")
	ticks(t, n)
	ticks(t, n, 9)
	stands(t, n, 5, 0)

	send(n, 9, "other")
	ticks(t, n)
	ticks(t, n, 9)
	has(t, n, accepted(8, 1, "b"), accepted(7, 2, "a"), accepted(9, 4, "c"))
}
