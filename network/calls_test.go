package network_test

import (
	"math"
	"strings"
	"testing"

	"arrears/api"
	"arrears/network"
)

// 16.2: a new network is at tick 0 and empty, and its messages arrive in the next Tick, for no fate waits.
func TestNew(t *testing.T) {
	n := network.New()
	stands(t, n, 0, 0)
	has(t, n)
	for range 30 {
		ticks(t, n)
	}
	stands(t, n, 30, 0)
	has(t, n)
	send(n, 1, "a")
	ticks(t, n)
	has(t, n, accepted(1, 31, "a"))
}

// 16.3: the letters are x, 1 to 9 and d, and no other byte; of a text that has one more, none waits.
func TestLetters(t *testing.T) {
	for b := range 256 {
		letter := string([]byte{byte(b)})
		want := api.ErrFate
		if strings.Contains("x123456789d", letter) {
			want = api.OK
		}
		fates(t, network.New(), letter, want)
		for _, text := range []string{letter + "xxx", "xx" + letter + "x", "xxx" + letter} {
			n := network.New()
			fates(t, n, text, want)
			if want != api.OK {
				send(n, 1, "a")
				stands(t, n, 0, 1)
			}
		}
	}
}

// 16.3: runes of several bytes, and bytes that are no rune, are no letters: no part of one is taken for a fate.
func TestNoLetters(t *testing.T) {
	for _, text := range []string{
		"é", "x\u0301", "１", "ｘ", "\u0131", "\u0178", "\u0264", "\U00010031", "\ufffd", "\xff", "\xc3", "\x80x", "x\xe2\x82", "1\x00", "\n", "1 2", " 1", "1,2", "X", "D", "0", "10", ":", "/",
	} {
		fates(t, network.New(), text, api.ErrFate)
	}
}

// 16.3: up to MaxFates bytes are taken; more are too long, whatever they are, and that is said first.
func TestFatesOfOneCall(t *testing.T) {
	fates(t, network.New(), strings.Repeat("9", api.MaxFates-1), api.OK)
	fates(t, network.New(), strings.Repeat("9", api.MaxFates), api.OK)
	fates(t, network.New(), strings.Repeat("y", api.MaxFates), api.ErrFate)
	fates(t, network.New(), strings.Repeat("é", api.MaxFates/2), api.ErrFate)
	for _, text := range []string{"9", "y", "\xff"} {
		fates(t, network.New(), strings.Repeat(text, api.MaxFates+1), api.ErrLong)
		fates(t, network.New(), strings.Repeat(text, 100000), api.ErrLong)
	}
	// Bytes are counted, not runes: these are 33 of two bytes each.
	fates(t, network.New(), strings.Repeat("é", 33), api.ErrLong)
}

// full is a network on which MaxQueue fates wait, all lost.
func full(t *testing.T) *network.Net {
	t.Helper()
	n := network.New()
	for range api.MaxQueue / api.MaxFates {
		fates(t, n, strings.Repeat("x", api.MaxFates), api.OK)
	}
	return n
}

// 16.3: MaxQueue fates may wait and no more; letters that are none are said ahead of that, and each message makes room for one.
func TestQueue(t *testing.T) {
	n := full(t)
	for _, text := range []string{"1", "d", strings.Repeat("1", api.MaxFates)} {
		fates(t, n, text, api.ErrLong)
	}
	fates(t, n, "", api.ErrFate)
	fates(t, n, "1y", api.ErrFate)
	fates(t, n, strings.Repeat("y", api.MaxFates), api.ErrFate)
	fates(t, n, strings.Repeat("y", api.MaxFates+1), api.ErrLong)
	for range 3 {
		send(n, 1, "lost")
	}
	fates(t, n, "9999", api.ErrLong)
	fates(t, n, "23", api.OK)
	fates(t, n, "99", api.ErrLong)
	fates(t, n, "4", api.OK)
	fates(t, n, "9", api.ErrLong)
	for range api.MaxQueue - 3 {
		send(n, 1, "lost")
	}
	stands(t, n, 0, 0)
	for id := 2; id <= 4; id++ {
		send(n, id, "")
	}
	ticks(t, n)
	ticks(t, n)
	ticks(t, n, 2)
	ticks(t, n, 3)
	ticks(t, n, 4)
	has(t, n, accepted(2, 2, ""), accepted(3, 3, ""), accepted(4, 4, ""))
}

// 16.3: a queue that stays full, each message taking the first fate and another joining its end, keeps count and order.
func TestQueueGoesOn(t *testing.T) {
	n, waiting := full(t), strings.Repeat("x", api.MaxQueue)
	copies := map[string]int{"x": 0, "1": 1, "d": 2}
	for round := range 3 * api.MaxQueue {
		before := n.Flying()
		send(n, round, "")
		if got, want := n.Flying()-before, copies[waiting[:1]]; got != want {
			t.Fatalf("16.3: message %d has %d copies, want %d", round, got, want)
		}
		letter := []string{"d", "x", "1", "1", "d"}[round%5]
		fates(t, n, letter, api.OK)
		fates(t, n, "1", api.ErrLong)
		waiting = waiting[1:] + letter
	}
}

// 16.3: fates of several calls wait in the order of the calls and of their letters; a refused call changes nothing.
func TestOrderOfFates(t *testing.T) {
	n := network.New()
	fates(t, n, "3x", api.OK)
	fates(t, n, "1x!", api.ErrFate)
	fates(t, n, "", api.ErrFate)
	fates(t, n, strings.Repeat("1", 65), api.ErrLong)
	fates(t, n, "d", api.OK)
	fates(t, n, "2", api.OK)
	for id, flying := range []int{1, 1, 3, 4, 5} { // the fates 3, x, d, 2, and none
		send(n, id, "")
		stands(t, n, 0, flying)
	}
	ticks(t, n)
	has(t, n, accepted(2, 1, ""), accepted(4, 1, ""))
	ticks(t, n, 2, 4)
	has(t, n, accepted(2, 1, ""), accepted(4, 1, ""), accepted(3, 2, ""))
	ticks(t, n, 2, 3)
	has(t, n, accepted(2, 1, ""), accepted(4, 1, ""), accepted(3, 2, ""), accepted(0, 3, ""))
	ticks(t, n, 0)
	stands(t, n, 4, 0)
}

// 16.4: behind a Calm no fate waits; what is on its way arrives when it would have, and was accepted what was.
func TestCalm(t *testing.T) {
	n := fated(t, "13dxxxx")
	n.Send(api.Packet{ID: 1})
	n.Send(api.Packet{ID: 2})
	n.Send(api.Packet{ID: 3})
	stands(t, n, 0, 4)
	n.Calm()
	stands(t, n, 0, 4)
	ticks(t, n)
	ticks(t, n, 1, 3)
	n.Calm()
	n.Calm()
	has(t, n, accepted(1, 1, ""), accepted(3, 1, ""))
	ticks(t, n, 3)
	ticks(t, n, 2)
	stands(t, n, 4, 0)
	has(t, n, accepted(1, 1, ""), accepted(3, 1, ""), accepted(2, 3, ""))
	fates(t, n, "2", api.OK)
	send(n, 4, "")
	ticks(t, n)
	has(t, n, accepted(1, 1, ""), accepted(3, 1, ""), accepted(2, 3, ""))
}

// 16.3, 16.4: a Calm makes room for MaxQueue fates, and none of those from ahead of it comes up again.
func TestCalmMakesRoom(t *testing.T) {
	n := full(t)
	n.Calm()
	for range api.MaxQueue / api.MaxFates {
		fates(t, n, strings.Repeat("d", api.MaxFates), api.OK)
	}
	fates(t, n, "d", api.ErrLong)
	for range api.MaxQueue + 1 {
		send(n, 1, "")
	}
	stands(t, n, 0, 2*api.MaxQueue+1)
}

// 16.5: any number goes, and any bytes; whether the packet says that it is an acknowledgement is not looked at.
func TestSendAnything(t *testing.T) {
	every := make([]byte, 256)
	for i := range every {
		every[i] = byte(i)
	}
	bodies := []string{"", "a", string(every), strings.Repeat("long ", 100000)}
	for _, ack := range []bool{false, true} {
		n := network.New()
		var want []api.Accepted
		var numbers []int
		for i, id := range []int{math.MinInt, -1, 0, 1, math.MaxInt, 1 << 32} {
			body := bodies[i%len(bodies)]
			n.Send(api.Packet{Ack: ack, ID: id, Body: []byte(body)})
			want, numbers = append(want, accepted(id, 1, body)), append(numbers, id)
		}
		n.Send(api.Packet{Ack: ack, ID: 5})
		want, numbers = append(want, accepted(5, 1, "")), append(numbers, 5)
		stands(t, n, 0, len(want))
		ticks(t, n)
		has(t, n, want...)
		ticks(t, n, numbers...)
		stands(t, n, 2, 0)
	}
}

// 16.6: with a fate from 1 to 9 a notice, and then its acknowledgement, arrives just so many ticks later.
func TestDelays(t *testing.T) {
	for there := 1; there <= 9; there++ {
		for back := 1; back <= 9; back++ {
			n := fated(t, string([]byte{byte('0' + there), byte('0' + back)}))
			send(n, 3, "a")
			for range there - 1 {
				ticks(t, n)
				has(t, n)
				stands(t, n, n.Now(), 1)
			}
			ticks(t, n)
			has(t, n, accepted(3, there, "a"))
			for range back - 1 {
				stands(t, n, n.Now(), 1)
				ticks(t, n)
			}
			stands(t, n, there+back-1, 1)
			ticks(t, n, 3)
			for range 12 {
				ticks(t, n)
			}
			stands(t, n, there+back+12, 0)
			has(t, n, accepted(3, there, "a"))
		}
	}
}

// 16.6: the same delays hold at any tick, many messages of several fates being on their way.
func TestDelaysAtAnyTick(t *testing.T) {
	n := network.New()
	var want []api.Accepted
	for now := range 60 {
		fates(t, n, "915", api.OK)
		send(n, 3*now, "nine")
		send(n, 3*now+1, "one")
		send(n, 3*now+2, "five")
		n.Tick()
		if now >= 8 {
			want = append(want, accepted(3*(now-8), now+1, "nine"))
		}
		if now >= 4 {
			want = append(want, accepted(3*(now-4)+2, now+1, "five"))
		}
		want = append(want, accepted(3*now+1, now+1, "one"))
		has(t, n, want...)
	}
}

// 16.6: a lost notice is not accepted, and its number is free for the next one of it.
func TestLostNotice(t *testing.T) {
	n := fated(t, "xx1")
	send(n, 1, "first")
	send(n, 1, "second")
	stands(t, n, 0, 0)
	send(n, 1, "third")
	stands(t, n, 0, 1)
	ticks(t, n)
	has(t, n, accepted(1, 1, "third"))
	ticks(t, n, 1)
}

// 16.6: the acknowledgement of a notice may be lost, and is handed over again for the next copy, which is not accepted again.
func TestLostAcknowledgement(t *testing.T) {
	n := fated(t, "1x1x1")
	send(n, 1, "a")
	ticks(t, n)
	stands(t, n, 1, 0)
	has(t, n, accepted(1, 1, "a"))
	send(n, 1, "b")
	ticks(t, n)
	stands(t, n, 2, 0)
	send(n, 1, "c")
	ticks(t, n)
	ticks(t, n, 1)
	has(t, n, accepted(1, 1, "a"))
}

// 16.6: each copy of a doubled notice is acknowledged; a doubled acknowledgement comes in twice.
func TestDoubled(t *testing.T) {
	n := fated(t, "ddd") // the notice, and the acknowledgements of its two copies
	send(n, 1, "a")
	stands(t, n, 0, 2)
	ticks(t, n)
	stands(t, n, 1, 3)
	ticks(t, n, 1)
	stands(t, n, 2, 3)
	ticks(t, n, 1, 1)
	stands(t, n, 3, 1)
	ticks(t, n, 1)
	stands(t, n, 4, 0)
	has(t, n, accepted(1, 1, "a"))
}

// 16.6: of several notices of one number the one that arrives first is accepted, not the one that was sent first.
func TestFirstToArrive(t *testing.T) {
	n := fated(t, "421")
	send(n, 1, "late")
	send(n, 1, "soon")
	ticks(t, n)
	send(n, 1, "behind both") // arrives at tick 2 too, handed over later
	ticks(t, n)
	has(t, n, accepted(1, 2, "soon"))
	ticks(t, n, 1, 1)
	ticks(t, n)
	ticks(t, n, 1)
	has(t, n, accepted(1, 2, "soon"))
}

// 16.6: what arrives at one tick arrives in the order in which it was handed over, whatever its delay, notices among acknowledgements.
func TestOrderOfArrival(t *testing.T) {
	n := fated(t, "3412")
	send(n, 30, "") // arrives at 3
	send(n, 40, "") // at 4
	send(n, 10, "") // at 1; its acknowledgement takes the 2 and arrives at 3
	ticks(t, n)
	fates(t, n, "23", api.OK)
	send(n, 20, "") // at 3, behind the acknowledgement of 10
	send(n, 41, "") // at 4, behind 40
	ticks(t, n)
	send(n, 21, "") // at 3, behind 20
	fates(t, n, "31x", api.OK)
	ticks(t, n, 10) // 30, 20, 21 take the fates 3, 1, x
	has(t, n, accepted(10, 1, ""), accepted(30, 3, ""), accepted(20, 3, ""), accepted(21, 3, ""))
	stands(t, n, 3, 4)
	ticks(t, n, 20)
	has(t, n, accepted(10, 1, ""), accepted(30, 3, ""), accepted(20, 3, ""), accepted(21, 3, ""), accepted(40, 4, ""), accepted(41, 4, ""))
	ticks(t, n, 40, 41)
	ticks(t, n, 30)
	stands(t, n, 6, 0)
}

// 16.6: a message takes its fate as it is handed over: an acknowledgement when its notice arrives, not when that is sent.
func TestWhenFatesAreTaken(t *testing.T) {
	n := fated(t, "1")
	send(n, 1, "")
	fates(t, n, "2x", api.OK)
	ticks(t, n) // the acknowledgement of 1 takes the 2
	send(n, 2, "")
	stands(t, n, 1, 1)
	fates(t, n, "x", api.OK) // too late for what is on its way
	ticks(t, n)
	ticks(t, n, 1)
	send(n, 3, "")
	stands(t, n, 3, 0)
	send(n, 4, "")
	stands(t, n, 3, 1)
}

// 16.6: an acknowledgement is handed over behind those that were on their way already, and none is acknowledged itself.
func TestAcknowledgementsAreNotAcknowledged(t *testing.T) {
	n := network.New()
	for id := range 5 {
		send(n, id, "")
	}
	ticks(t, n)
	fates(t, n, "xxxxxxxxxx", api.OK)
	ticks(t, n, 0, 1, 2, 3, 4)
	stands(t, n, 2, 0)
	for range 10 { // all ten fates wait still
		send(n, 9, "")
		stands(t, n, 2, 0)
	}
	send(n, 9, "")
	stands(t, n, 2, 1)
}

// 16.7: Now, Accepted and Flying change nothing, however often they are asked.
func TestAskingChangesNothing(t *testing.T) {
	n := fated(t, "d1x3")
	send(n, 1, "a")
	for range 12 {
		for range 3 {
			n.Now()
			n.Flying()
			n.Accepted()
		}
		if n.Now() == 1 {
			ticks(t, n, 1) // the first copy's acknowledgement; the second's is lost
			continue
		}
		ticks(t, n)
	}
	stands(t, n, 12, 0)
	send(n, 2, "b") // the 3 waits still
	ticks(t, n)
	ticks(t, n)
	has(t, n, accepted(1, 1, "a"))
	ticks(t, n)
	has(t, n, accepted(1, 1, "a"), accepted(2, 15, "b"))
}
