package outbox_test

import (
	"slices"
	"testing"

	"arrears/api"
	"arrears/outbox"
)

// example is the policy of chapter 12's examples.
func example() api.Policy { return retry(2, 16) }

// retry is the policy of the examples with other waits.
func retry(base, limit int) api.Policy {
	return api.Policy{
		FirstDay: 1, Grace: 10, NonAccrual: 90, ChargeOff: 120,
		LateRate: 500, LateMin: 1500, LateMax: 10000, CycleCap: 20000, LifeCap: 50000,
		Promises: 3, PromiseDays: 14, Restructures: 2,
		Order: 0, Rule: 1, RetryBase: base, RetryCap: limit, SnapEvery: 100,
	}
}

func adds(t *testing.T, b *outbox.Box, id int, body string, now int, want api.Errno) {
	t.Helper()
	if got := b.Add(id, []byte(body), now); got != want {
		t.Errorf("17.2: Add(%d, %q, %d) = %d, want %d", id, body, now, got, want)
	}
}

func acks(t *testing.T, b *outbox.Box, id int, want bool) {
	t.Helper()
	if got := b.Ack(id); got != want {
		t.Errorf("17.3: Ack(%d) = %v, want %v", id, got, want)
	}
}

func packet(id int, body string) api.Packet { return api.Packet{ID: id, Body: []byte(body)} }

func samePacket(a, b api.Packet) bool {
	return a.Ack == b.Ack && a.ID == b.ID && string(a.Body) == string(b.Body)
}

// sends holds Due at a tick to these packets.
func sends(t *testing.T, b *outbox.Box, now int, want ...api.Packet) {
	t.Helper()
	if got := b.Due(now); !slices.EqualFunc(got, want, samePacket) {
		t.Errorf("17.4: Due(%d) = %v, want %v", now, got, want)
	}
}

func pending(id, attempts, next int, body string) api.Pending {
	return api.Pending{ID: id, Attempts: attempts, Next: next, Body: []byte(body)}
}

func samePending(a, b api.Pending) bool {
	return a.ID == b.ID && a.Attempts == b.Attempts && a.Next == b.Next && string(a.Body) == string(b.Body)
}

// holds holds what is in the box to this list.
func holds(t *testing.T, b *outbox.Box, want ...api.Pending) {
	t.Helper()
	if got := b.Pending(); !slices.EqualFunc(got, want, samePending) {
		t.Errorf("17.5: Pending() = %v, want %v", got, want)
	}
}

// The chapter's examples, row by row, on one box.
func TestExamples(t *testing.T) {
	b := outbox.New(example())
	sends(t, b, 0)
	holds(t, b)
	acks(t, b, 1, false)

	adds(t, b, 3, "c", 5, api.OK)
	adds(t, b, 1, "a", 7, api.OK)
	adds(t, b, 3, "x", 0, api.ErrKey)
	adds(t, b, 0, "", 0, api.ErrArg)
	sends(t, b, 4)
	sends(t, b, 5, packet(3, "c"))
	holds(t, b, pending(1, 0, 7, "a"), pending(3, 1, 7, "c"))

	sends(t, b, 7, packet(1, "a"), packet(3, "c"))
	holds(t, b, pending(1, 1, 9, "a"), pending(3, 2, 11, "c"))
	sends(t, b, 8)
	sends(t, b, 9, packet(1, "a"))
	holds(t, b, pending(1, 2, 13, "a"), pending(3, 2, 11, "c"))
	sends(t, b, 100, packet(1, "a"), packet(3, "c"))
	holds(t, b, pending(1, 3, 108, "a"), pending(3, 3, 108, "c"))

	acks(t, b, 3, true)
	acks(t, b, 3, false)
	sends(t, b, 108, packet(1, "a"))
	holds(t, b, pending(1, 4, 124, "a"))
	sends(t, b, 124, packet(1, "a"))
	sends(t, b, 139)
	sends(t, b, 140, packet(1, "a"))
	holds(t, b, pending(1, 6, 156, "a"))
}
