package outbox_test

import (
	"math"
	"math/rand"
	"strings"
	"testing"

	"arrears/api"
	"arrears/outbox"
)

const last, first = math.MaxInt, math.MinInt

// 17.1: a new box is empty at every tick.
func TestNewIsEmpty(t *testing.T) {
	for _, p := range append(refused(), example(), retry(1, 1), retry(64, 64)) {
		b := outbox.New(p)
		holds(t, b)
		for _, n := range []int{first, -1, 0, 1, 5, last} {
			sends(t, b, n)
			acks(t, b, n, false)
		}
		holds(t, b)
	}
}

// refused are policies that may not be, by each of their fields.
func refused() []api.Policy {
	changes := []func(p *api.Policy){
		func(p *api.Policy) { *p = api.Policy{} },
		func(p *api.Policy) { p.FirstDay = 0 },
		func(p *api.Policy) { p.Grace = 31 },
		func(p *api.Policy) { p.NonAccrual = p.Grace },
		func(p *api.Policy) { p.ChargeOff = 366 },
		func(p *api.Policy) { p.LateRate = 10001 },
		func(p *api.Policy) { p.LateMin = -1 },
		func(p *api.Policy) { p.LateMax = p.LateMin - 1 },
		func(p *api.Policy) { p.CycleCap = api.MaxFee + 1 },
		func(p *api.Policy) { p.LifeCap = -1 },
		func(p *api.Policy) { p.Promises = 9 },
		func(p *api.Policy) { p.PromiseDays = 0 },
		func(p *api.Policy) { p.Restructures = 5 },
		func(p *api.Policy) { p.Order = 6 },
		func(p *api.Policy) { p.Rule = -1 },
		func(p *api.Policy) { p.RetryBase = 0 },
		func(p *api.Policy) { p.RetryBase = -2 },
		func(p *api.Policy) { p.RetryBase, p.RetryCap = 65, 65 },
		func(p *api.Policy) { p.RetryCap = 1 },
		func(p *api.Policy) { p.RetryCap = 65 },
		func(p *api.Policy) { p.RetryBase, p.RetryCap = last, last },
		func(p *api.Policy) { p.SnapEvery = 1001 },
		func(p *api.Policy) { p.Holidays = []int{5, 5} },
		func(p *api.Policy) { p.Holidays = []int{0} },
		func(p *api.Policy) { p.Holidays = []int{api.MaxDay + 1} },
		func(p *api.Policy) { p.Holidays = make([]int, api.MaxHolidays+1) },
	}
	var list []api.Policy
	for _, change := range changes {
		p := example()
		change(&p)
		list = append(list, p)
	}
	return list
}

// 17.1, 17.4: under a policy that may not be a notice is due again at once, however often it was sent.
func TestRefusedPolicies(t *testing.T) {
	for _, p := range refused() {
		b := outbox.New(p)
		adds(t, b, 1, "a", 4, api.OK)
		adds(t, b, 1, "b", 4, api.ErrKey)
		adds(t, b, 0, "b", 4, api.ErrArg)
		sends(t, b, 3)
		for n := range 10 {
			holds(t, b, pending(1, n, 4, "a"))
			sends(t, b, 4, packet(1, "a"))
		}
		sends(t, b, 9, packet(1, "a"))
		holds(t, b, pending(1, 11, 9, "a"))
		sends(t, b, 8)
		sends(t, b, last, packet(1, "a"))
		sends(t, b, last, packet(1, "a"))
		holds(t, b, pending(1, 13, last, "a"))
		acks(t, b, 1, true)
		holds(t, b)
	}
}

// 17.1, 17.4: which waits there are hangs on no field of a policy that may be but RetryBase and RetryCap, on its holidays neither.
func TestOtherFieldsCountForNothing(t *testing.T) {
	for _, change := range []func(p *api.Policy){
		func(p *api.Policy) { p.FirstDay = api.MaxDay },
		func(p *api.Policy) { p.Grace, p.NonAccrual = 0, 365 },
		func(p *api.Policy) { p.Order, p.Rule, p.SnapEvery = 5, 0, 0 },
		func(p *api.Policy) { p.LateRate, p.LateMin, p.LateMax, p.CycleCap, p.LifeCap = 0, 0, 0, 0, 0 },
		func(p *api.Policy) { p.Promises, p.PromiseDays, p.Restructures = 0, 1, 0 },
		func(p *api.Policy) { p.Holidays = []int{1, 2, 3, api.MaxDay} },
		func(p *api.Policy) { p.Holidays = []int{} },
	} {
		p := example()
		change(&p)
		b := outbox.New(p)
		adds(t, b, 1, "a", 0, api.OK)
		for _, now := range []int{0, 2, 6, 14, 30, 46} {
			sends(t, b, now-1)
			sends(t, b, now, packet(1, "a"))
		}
		holds(t, b, pending(1, 6, 62, "a"))
	}
}

// 17.2: an ID from 1 on is taken, whatever the tick and the bytes are; one below 1 never is, and changes nothing.
func TestAdd(t *testing.T) {
	every := make([]byte, 256)
	for i := range every {
		every[i] = byte(i)
	}
	for _, body := range []string{"", "a", "\x00", "é", string(every), strings.Repeat("long ", 100000)} {
		for _, now := range []int{first, first + 1, -7, 0, 1, 1 << 32, last - 1, last} {
			b := outbox.New(example())
			var want []api.Pending
			for _, id := range []int{1, 2, 1 << 32, last - 1, last} {
				adds(t, b, id, body, now, api.OK)
				want = append(want, pending(id, 0, now, body))
			}
			for _, id := range []int{0, -1, -2, -1 << 32, first + 1, first} {
				adds(t, b, id, body, now, api.ErrArg)
			}
			holds(t, b, want...)
		}
	}
}

// 17.2: an ID that is in the box is refused, whatever comes with it and however often it was sent, and stays as it is.
func TestAddAgain(t *testing.T) {
	b := outbox.New(example())
	adds(t, b, 7, "seven", 10, api.OK)
	for _, body := range []string{"", "seven", "other"} {
		for _, now := range []int{first, 0, 10, 11, last} {
			adds(t, b, 7, body, now, api.ErrKey)
		}
	}
	holds(t, b, pending(7, 0, 10, "seven"))
	sends(t, b, 10, packet(7, "seven"))
	sends(t, b, 12, packet(7, "seven"))
	adds(t, b, 7, "other", 0, api.ErrKey)
	adds(t, b, 8, "eight", 0, api.OK)
	adds(t, b, 7, "other", 0, api.ErrKey)
	holds(t, b, pending(7, 2, 16, "seven"), pending(8, 0, 0, "eight"))
}

// 17.3: a notice is taken out once, sent or not; what is not in the box is not, and nothing else changes.
func TestAck(t *testing.T) {
	b := outbox.New(example())
	adds(t, b, 1, "a", 0, api.OK)
	adds(t, b, 2, "b", 0, api.OK)
	sends(t, b, 0, packet(1, "a"), packet(2, "b"))
	adds(t, b, 3, "c", 0, api.OK)
	for _, id := range []int{first, -1, 0, 4, last} {
		acks(t, b, id, false)
	}
	holds(t, b, pending(1, 1, 2, "a"), pending(2, 1, 2, "b"), pending(3, 0, 0, "c"))
	acks(t, b, 3, true)
	acks(t, b, 1, true)
	acks(t, b, 1, false)
	holds(t, b, pending(2, 1, 2, "b"))
	sends(t, b, 2, packet(2, "b"))
	acks(t, b, 2, true)
	for _, id := range []int{1, 2, 3} {
		acks(t, b, id, false)
	}
	holds(t, b)
	sends(t, b, last)
}

// 17.3: what was taken out may be added again, and begins anew.
func TestAddBehindAck(t *testing.T) {
	b := outbox.New(example())
	adds(t, b, 1, "a", 0, api.OK)
	for now := range 100 {
		b.Due(now)
	}
	holds(t, b, pending(1, 9, 110, "a"))
	acks(t, b, 1, true)
	adds(t, b, 1, "new", 50, api.OK)
	holds(t, b, pending(1, 0, 50, "new"))
	for _, now := range []int{50, 52, 56, 64, 80, 96} {
		sends(t, b, now-1)
		sends(t, b, now, packet(1, "new"))
	}
	acks(t, b, 1, true)
	adds(t, b, 1, "", 0, api.OK)
	adds(t, b, 1, "x", 0, api.ErrKey)
	holds(t, b, pending(1, 0, 0, ""))
}

// 17.4: at its Next and behind it a notice is due, ahead of it not; what is not due stays as it is.
func TestDue(t *testing.T) {
	for _, next := range []int{first + 1, -5, -1, 0, 1, 5, 1 << 32, last - 1} {
		for _, ahead := range []int{1, 2, 1 << 31} {
			if next < first+ahead {
				continue
			}
			b := outbox.New(example())
			adds(t, b, 1, "a", next, api.OK)
			sends(t, b, next-ahead)
			sends(t, b, first)
			holds(t, b, pending(1, 0, next, "a"))
			sends(t, b, next, packet(1, "a"))
		}
		for _, now := range []int{next, next + 1, last - 2, last - 1, last} {
			if now < next {
				continue
			}
			b := outbox.New(example())
			adds(t, b, 1, "a", next, api.OK)
			sends(t, b, now, packet(1, "a"))
			want := last
			if now <= last-2 {
				want = now + 2
			}
			holds(t, b, pending(1, 1, want, "a"))
		}
	}
}

// 17.4: Next is reckoned from the tick that was asked, not from the one at which the notice came to be due.
func TestNextFromNow(t *testing.T) {
	b := outbox.New(example())
	adds(t, b, 1, "a", 0, api.OK)
	sends(t, b, 1000, packet(1, "a"))
	holds(t, b, pending(1, 1, 1002, "a"))
	sends(t, b, 5000, packet(1, "a"))
	holds(t, b, pending(1, 2, 5004, "a"))
	sends(t, b, 5003)
	sends(t, b, 5004, packet(1, "a"))
	holds(t, b, pending(1, 3, 5012, "a"))
}

// 17.4: ticks may go back, or stand still.
func TestTicksGoBack(t *testing.T) {
	b := outbox.New(example())
	adds(t, b, 1, "a", 100, api.OK)
	sends(t, b, 100, packet(1, "a"))
	sends(t, b, 100)
	sends(t, b, 50)
	sends(t, b, first)
	adds(t, b, 2, "b", -50, api.OK)
	sends(t, b, -51)
	sends(t, b, -50, packet(2, "b"))
	holds(t, b, pending(1, 1, 102, "a"), pending(2, 1, -48, "b"))
	sends(t, b, 0, packet(2, "b"))
	sends(t, b, 4, packet(2, "b"))
	sends(t, b, 3)
	holds(t, b, pending(1, 1, 102, "a"), pending(2, 3, 12, "b"))
}

// 17.4: Next does not go beyond the greatest int, and up to there is exact.
func TestGreatestTicks(t *testing.T) {
	for limit := 1; limit <= 64; limit++ {
		for ahead := range 70 {
			b := outbox.New(retry(limit, limit))
			adds(t, b, 1, "a", 0, api.OK)
			sends(t, b, last-ahead, packet(1, "a"))
			want := last
			if limit < ahead {
				want = last - (ahead - limit)
			}
			holds(t, b, pending(1, 1, want, "a"))
			if want > last-ahead {
				sends(t, b, want-1)
			}
			sends(t, b, want, packet(1, "a"))
			sends(t, b, last, packet(1, "a"))
			sends(t, b, last, packet(1, "a"))
			holds(t, b, pending(1, 4, last, "a"))
		}
	}
}

// 17.4: the least int is a tick like others.
func TestLeastTicks(t *testing.T) {
	b := outbox.New(example())
	adds(t, b, 1, "a", first, api.OK)
	adds(t, b, 2, "b", first+1, api.OK)
	sends(t, b, first, packet(1, "a"))
	holds(t, b, pending(1, 1, first+2, "a"), pending(2, 0, first+1, "b"))
	sends(t, b, first)
	sends(t, b, first+1, packet(2, "b"))
	sends(t, b, first+2, packet(1, "a"))
	holds(t, b, pending(1, 2, first+6, "a"), pending(2, 1, first+3, "b"))
	sends(t, b, last, packet(1, "a"), packet(2, "b"))
	holds(t, b, pending(1, 3, last, "a"), pending(2, 2, last, "b"))
}

// 17.4, 17.5: many notices, added in any order: what is told is told by rising ID, each with its own bytes.
func TestByRisingID(t *testing.T) {
	random := rand.New(rand.NewSource(1704))
	for range 50 {
		b := outbox.New(example())
		var even, all []api.Packet
		var list []api.Pending
		ids := random.Perm(300)
		for _, i := range ids {
			adds(t, b, i*1001+1, string(rune('a'+i)), i%2, api.OK)
		}
		for i := range ids {
			id, body := i*1001+1, string(rune('a'+i))
			all, list = append(all, packet(id, body)), append(list, pending(id, 0, i%2, body))
			if i%2 == 0 {
				even = append(even, packet(id, body))
			}
		}
		holds(t, b, list...)
		sends(t, b, 0, even...)
		sends(t, b, 2, all...)
		for _, i := range random.Perm(300) {
			acks(t, b, i*1001+1, true)
			acks(t, b, i*1001+1, false)
		}
		holds(t, b)
	}
}

// 17.5: Pending looks and touches nothing.
func TestPendingChangesNothing(t *testing.T) {
	b := outbox.New(example())
	adds(t, b, 2, "b", 1, api.OK)
	adds(t, b, 1, "a", 0, api.OK)
	for range 5 {
		holds(t, b, pending(1, 0, 0, "a"), pending(2, 0, 1, "b"))
	}
	sends(t, b, 0, packet(1, "a"))
	for range 5 {
		holds(t, b, pending(1, 1, 2, "a"), pending(2, 0, 1, "b"))
	}
	sends(t, b, 2, packet(1, "a"), packet(2, "b"))
}
