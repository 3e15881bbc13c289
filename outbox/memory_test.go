package outbox_test

import (
	"bytes"
	"runtime"
	"slices"
	"strings"
	"testing"
	"weak"

	"arrears/api"
	"arrears/outbox"
)

// guarded lays bytes into the midst of a longer memory, and hands out that memory too.
func guarded(text string) (inside, all []byte) {
	all = slices.Concat(bytes.Repeat([]byte{0xa5}, 8), []byte(text), bytes.Repeat([]byte{0xa5}, 64))
	return all[8 : 8+len(text)], all
}

// overwrite writes over a list and its spare room.
func overwrite[T any](list []T, with T) {
	list = list[:cap(list)]
	for i := range list {
		list[i] = with
	}
}

// spoilPackets writes over all the memory of what Due answered.
func spoilPackets(list []api.Packet) {
	for _, p := range list {
		overwrite(p.Body, '#')
	}
	overwrite(list, api.Packet{Ack: true, ID: 99, Body: []byte("#")})
}

// spoilPending writes over all the memory of what Pending answered.
func spoilPending(list []api.Pending) {
	for _, p := range list {
		overwrite(p.Body, '#')
	}
	overwrite(list, pending(99, 99, 99, "#"))
}

// keptPackets is a copy of what Due answered.
func keptPackets(list []api.Packet) []api.Packet {
	list = slices.Clone(list)
	for i, p := range list {
		list[i].Body = bytes.Clone(p.Body)
	}
	return list
}

// keptPending is a copy of what Pending answered.
func keptPending(list []api.Pending) []api.Pending {
	list = slices.Clone(list)
	for i, p := range list {
		list[i].Body = bytes.Clone(p.Body)
	}
	return list
}

// Bytes that are handed in stay as they are, what lies around them too, whatever comes later.
func TestGivenBytesStay(t *testing.T) {
	b := outbox.New(example())
	var given, before [][]byte
	for i, text := range []string{"a", "bc", "", "def", "ghij", "klm"} {
		body, all := guarded(text)
		given, before = append(given, all), append(before, bytes.Clone(all))
		b.Add(i%5, body, i)
	}
	for now := range 40 {
		spoilPackets(b.Due(now))
		spoilPending(b.Pending())
	}
	b.Ack(1)
	for i, all := range given {
		if !bytes.Equal(all, before[i]) {
			t.Errorf("17.2: bytes that were handed in changed: %q", all)
		}
	}
}

// Bytes that are handed in are not kept: what becomes of them behind the Add is seen nowhere.
func TestGivenBytesAreNotKept(t *testing.T) {
	b := outbox.New(example())
	for i, text := range []string{"abc", "", "hi"} {
		body, all := guarded(text)
		b.Add(i+1, body, 0)
		overwrite(all, '#')
	}
	holds(t, b, pending(1, 0, 0, "abc"), pending(2, 0, 0, ""), pending(3, 0, 0, "hi"))
	sends(t, b, 0, packet(1, "abc"), packet(2, ""), packet(3, "hi"))
	// One memory for all bodies, as a caller has that fills a buffer anew.
	one := make([]byte, 1)
	for i, c := range []byte("xyz") {
		one[0] = c
		b.Add(10+i, one, 1)
	}
	sends(t, b, 1, packet(10, "x"), packet(11, "y"), packet(12, "z"))
}

// held adds a notice of its own bytes, and tells by a weak pointer whether their memory is still held.
func held(b *outbox.Box, id int) weak.Pointer[[4096]byte] {
	body := new([4096]byte)
	b.Add(id, body[:], 0)
	return weak.Make(body)
}

// The memory that is handed in may go when the Add is over, of a refused one too.
func TestGivenMemoryIsLetGo(t *testing.T) {
	b := outbox.New(example())
	var all []weak.Pointer[[4096]byte]
	for _, id := range []int{1, 2, 2, 0} {
		all = append(all, held(b, id))
	}
	runtime.GC()
	for i, p := range all {
		if p.Value() != nil {
			t.Errorf("17.2: the memory of Add %d is kept", i)
		}
	}
	runtime.KeepAlive(b)
}

// underHolidays is a box under a policy with holidays, and tells by a weak pointer whether these are still held.
func underHolidays(change func(days *[api.MaxHolidays]int)) (*outbox.Box, weak.Pointer[[api.MaxHolidays]int]) {
	days := new([api.MaxHolidays]int)
	for i := range days {
		days[i] = i + 1
	}
	change(days)
	p := example()
	p.Holidays = days[:]
	return outbox.New(p), weak.Make(days)
}

// 17.1: the holidays are not kept, of a policy that may be and of one that may not.
func TestHolidaysAreLetGo(t *testing.T) {
	for _, day := range []int{1, 0} {
		b, p := underHolidays(func(days *[api.MaxHolidays]int) { days[0] = day })
		runtime.GC()
		if p.Value() != nil {
			t.Errorf("17.1: the holidays are kept")
		}
		adds(t, b, 1, "a", 0, api.OK)
		sends(t, b, 0, packet(1, "a"))
		holds(t, b, pending(1, 1, 2*day, "a"))
	}
}

// 17.1: what becomes of the holidays behind New counts for nothing, whether the policy may be then or not; and no call changes them.
func TestHolidaysOfLater(t *testing.T) {
	for _, c := range []struct {
		days   []int
		at, to int
		next   int
	}{{[]int{5, 6}, 1, 5, 2}, {[]int{5, 6}, 0, 0, 2}, {[]int{5, 5}, 1, 6, 0}, {[]int{0, 6}, 0, 1, 0}} {
		p := example()
		p.Holidays = slices.Clone(c.days)
		b := outbox.New(p)
		if !slices.Equal(p.Holidays, c.days) {
			t.Errorf("17.1: New changes the holidays %v to %v", c.days, p.Holidays)
		}
		p.Holidays[c.at] = c.to
		changed := slices.Clone(p.Holidays)
		adds(t, b, 1, "a", 0, api.OK)
		sends(t, b, 0, packet(1, "a"))
		holds(t, b, pending(1, 1, c.next, "a"))
		if !slices.Equal(p.Holidays, changed) {
			t.Errorf("17.1: holidays that were handed in changed: %v, want %v", p.Holidays, changed)
		}
	}
}

// What is answered is new memory, its spare room and its bytes too: writing over it changes no box and no other answer.
func TestAnswersAreNew(t *testing.T) {
	b, twin := outbox.New(example()), outbox.New(example())
	for i := range 40 {
		body := strings.Repeat("b", i)
		adds(t, b, i+1, body, i, api.OK)
		adds(t, twin, i+1, body, i, api.OK)
		first, second := b.Pending(), b.Pending()
		want := twin.Pending()
		spoilPending(first)
		if !slices.EqualFunc(second, want, samePending) {
			t.Errorf("17.5: two answers of Pending share memory: %v", second)
		}
		packets := b.Due(i)
		if told := twin.Due(i); !slices.EqualFunc(packets, told, samePacket) {
			t.Errorf("17.4: an answer that was written over is seen: %v, want %v", packets, told)
		}
		spoilPackets(packets)
		spoilPending(second)
		holds(t, b, twin.Pending()...)
	}
}

// No two lists of one answer share memory, their spare room neither.
func TestBodiesOfOneAnswer(t *testing.T) {
	b := outbox.New(example())
	one := []byte("same")
	for id := 1; id <= 6; id++ {
		b.Add(id, one, 0)
	}
	list := b.Pending()
	for i := range list {
		want := keptPending(list)
		overwrite(list[i].Body, '#')
		want[i].Body = list[i].Body
		if !slices.EqualFunc(list, want, samePending) {
			t.Errorf("17.5: the bytes of %d share memory with others of their answer", list[i].ID)
		}
	}
	packets := b.Due(0)
	for i := range packets {
		want := keptPackets(packets)
		overwrite(packets[i].Body, '#')
		want[i].Body = packets[i].Body
		if !slices.EqualFunc(packets, want, samePacket) {
			t.Errorf("17.4: the bytes of %d share memory with others of their answer", packets[i].ID)
		}
	}
}

// What was answered does not change with what is called later.
func TestAnswersStay(t *testing.T) {
	b := outbox.New(example())
	var lists, copies [][]api.Pending
	var packets, same [][]api.Packet
	for now := range 60 {
		b.Add(1+now%7, []byte{byte('a' + now%20)}, now)
		list, told := b.Pending(), b.Due(now)
		lists, copies = append(lists, list), append(copies, keptPending(list))
		packets, same = append(packets, told), append(same, keptPackets(told))
		b.Ack(1 + now%5)
	}
	for i := range lists {
		if !slices.EqualFunc(lists[i], copies[i], samePending) || !slices.EqualFunc(packets[i], same[i], samePacket) {
			t.Errorf("an answer changed: %v, %v, want %v, %v", lists[i], packets[i], copies[i], same[i])
		}
	}
}

// Nil and empty bytes are the same.
func TestNilIsEmpty(t *testing.T) {
	for _, body := range [][]byte{nil, {}, make([]byte, 0, 9), []byte("abc")[3:]} {
		b := outbox.New(example())
		if why := b.Add(1, body, 0); why != api.OK {
			t.Errorf("17.2: Add of no bytes = %d", why)
		}
		if why := b.Add(1, body, 0); why != api.ErrKey {
			t.Errorf("17.2: Add of no bytes, again, = %d", why)
		}
		holds(t, b, pending(1, 0, 0, ""))
		sends(t, b, 0, packet(1, ""))
		holds(t, b, pending(1, 1, 2, ""))
		acks(t, b, 1, true)
	}
}

// Two boxes share nothing, those of one policy neither.
func TestTwoBoxes(t *testing.T) {
	p := example()
	one, other := outbox.New(p), outbox.New(p)
	slow := outbox.New(retry(64, 64))
	adds(t, one, 1, "a", 0, api.OK)
	holds(t, other)
	adds(t, other, 1, "b", 5, api.OK)
	adds(t, slow, 1, "c", 0, api.OK)
	sends(t, one, 0, packet(1, "a"))
	sends(t, slow, 0, packet(1, "c"))
	sends(t, other, 4)
	holds(t, one, pending(1, 1, 2, "a"))
	holds(t, other, pending(1, 0, 5, "b"))
	holds(t, slow, pending(1, 1, 64, "c"))
	acks(t, one, 1, true)
	acks(t, one, 1, false)
	sends(t, other, 5, packet(1, "b"))
	holds(t, one)
	holds(t, other, pending(1, 1, 7, "b"))
	holds(t, outbox.New(p))
}
