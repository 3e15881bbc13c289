package outbox

import (
	"bytes"
	"math"

	"arrears/api"
	"arrears/policy"
)

// entry is a notice in the box; the bytes of its Body are its own and are never written to.
type entry struct {
	api.Pending
}

// newEntry is a notice that was not sent yet.
func newEntry(id int, body []byte, now int) entry {
	return entry{api.Pending{ID: id, Next: now, Body: bytes.Clone(body)}}
}

// due tells whether the notice is to be sent at this tick.
func (e entry) due(now int) bool { return e.Next <= now }

// packet is the notice as it goes over the network.
func (e entry) packet() api.Packet {
	return api.Packet{ID: e.ID, Body: bytes.Clone(e.Body)}
}

// told is the notice as the box tells it, in memory of its own.
func (e entry) told() api.Pending {
	e.Body = bytes.Clone(e.Body)
	return e.Pending
}

// sent is the notice once it was sent at this tick.
func (e entry) sent(now int, rules api.Policy) entry {
	e.Attempts++
	e.Next = later(now, policy.Backoff(rules, e.Attempts))
	return e
}

// later is so many ticks behind this one, or the last tick there is.
func later(now, ticks int) int {
	if now > math.MaxInt-ticks {
		return math.MaxInt
	}
	return now + ticks
}
