package network_test

import (
	"bytes"
	"runtime"
	"slices"
	"strings"
	"testing"
	"weak"

	"arrears/api"
	"arrears/network"
)

// guarded lays bytes into the midst of a longer memory, and hands out that memory too.
func guarded(text string) (inside, all []byte) {
	all = slices.Concat(bytes.Repeat([]byte{0xa5}, 8), []byte(text), bytes.Repeat([]byte{0xa5}, 64))
	return all[8 : 8+len(text)], all
}

// overwrite writes over a list and its spare room.
func overwrite[T any](list []T, with T) {
	list = list[:cap(list)]
	for i := range list {
		list[i] = with
	}
}

// spoil writes over all the memory of what the receiver accepted.
func spoil(list []api.Accepted) {
	for _, a := range list {
		overwrite(a.Body, '#')
	}
	overwrite(list, accepted(99, 99, "#"))
}

// kept is a copy of what the receiver accepted.
func kept(list []api.Accepted) []api.Accepted {
	list = slices.Clone(list)
	for i, a := range list {
		list[i].Body = bytes.Clone(a.Body)
	}
	return list
}

// 16.1: bytes that are handed in stay as they are, what lies around them too, whatever comes later.
func TestGivenBytesStay(t *testing.T) {
	n := fated(t, "1d3x2")
	var given, before [][]byte
	for i, text := range []string{"a", "bc", "", "def", "ghij", "klm"} {
		body, all := guarded(text)
		given, before = append(given, all), append(before, bytes.Clone(all))
		n.Send(api.Packet{ID: i % 4, Body: body})
	}
	for range 12 {
		n.Tick()
		spoil(n.Accepted())
	}
	n.Calm()
	for i, all := range given {
		if !bytes.Equal(all, before[i]) {
			t.Errorf("16.1: bytes that were handed in changed: %q", all)
		}
	}
}

// 16.1: bytes that are handed in are not kept: what becomes of them behind the Send is seen neither on the way nor at the receiver.
func TestGivenBytesAreNotKept(t *testing.T) {
	n := fated(t, "12d")
	var all []byte
	for id, text := range []string{"abc", "defg", "hi"} {
		var body []byte
		body, all = guarded(text)
		n.Send(api.Packet{ID: id, Body: body})
		overwrite(all, '#')
	}
	n.Tick()
	overwrite(all, '!')
	n.Tick()
	has(t, n, accepted(0, 1, "abc"), accepted(2, 1, "hi"), accepted(1, 2, "defg"))
	// One memory for all bodies, as a caller has that fills a buffer anew.
	one := make([]byte, 1)
	for i, c := range []byte("xyz") {
		one[0] = c
		n.Send(api.Packet{ID: 10 + i, Body: one})
	}
	n.Tick()
	has(t, n, accepted(0, 1, "abc"), accepted(2, 1, "hi"), accepted(1, 2, "defg"), accepted(10, 3, "x"), accepted(11, 3, "y"), accepted(12, 3, "z"))
}

// 16.1: what Accepted answers is new memory, its spare room and its bytes too: writing over it changes no network and no other answer.
func TestAcceptedIsNew(t *testing.T) {
	n := network.New()
	var want []api.Accepted
	for id := range 20 {
		body := strings.Repeat("b", id)
		send(n, id, body)
		n.Tick()
		want = append(want, accepted(id, id+1, body))
		first, second := n.Accepted(), n.Accepted()
		spoil(first)
		if !slices.EqualFunc(second, want, sameAccepted) {
			t.Errorf("16.1: two answers of Accepted share memory: %v", second)
		}
		has(t, n, want...)
	}
}

// 16.1: no two lists of one answer share memory, their spare room neither.
func TestBodiesOfOneAnswer(t *testing.T) {
	n := fated(t, "d11d")
	one := []byte("same")
	for id := range 6 {
		n.Send(api.Packet{ID: id, Body: one})
	}
	n.Tick()
	list := n.Accepted()
	for i := range list {
		want := kept(list)
		overwrite(list[i].Body, '#')
		want[i].Body = list[i].Body
		if !slices.EqualFunc(list, want, sameAccepted) {
			t.Errorf("16.1: the bytes of %d share memory with others of their answer", list[i].ID)
		}
	}
}

// 16.1: what was answered does not change with what is called later.
func TestAnswersStay(t *testing.T) {
	n := fated(t, "d2d1d")
	for id := range 4 {
		send(n, id, "body")
	}
	var lists, copies [][]api.Accepted
	var numbers, same [][]int
	for tick := range 15 {
		list, told := n.Accepted(), n.Tick()
		lists, copies = append(lists, list), append(copies, kept(list))
		numbers, same = append(numbers, told), append(same, slices.Clone(told))
		send(n, tick%6, "other")
	}
	for i := range lists {
		if !slices.EqualFunc(lists[i], copies[i], sameAccepted) || !slices.Equal(numbers[i], same[i]) {
			t.Errorf("16.1: an answer changed: %v, %v, want %v, %v", lists[i], numbers[i], copies[i], same[i])
		}
	}
}

// 16.1: what Tick answers is new memory, its spare room too.
func TestNumbersAreNew(t *testing.T) {
	n, twin := network.New(), network.New()
	var earlier, same []int
	for round := range 30 {
		for _, net := range []*network.Net{n, twin} {
			fates(t, net, "1d2x3"[round%5:], api.OK)
			for id := range round % 7 {
				send(net, id, "")
			}
		}
		told, want := n.Tick(), twin.Tick()
		if !slices.Equal(told, want) {
			t.Errorf("16.1: an answer that was written over is seen: %v, want %v", told, want)
		}
		if !slices.Equal(earlier, same) {
			t.Errorf("16.1: an answer changed: %v, want %v", earlier, same)
		}
		if round%2 == 0 {
			overwrite(told, 99)
		}
		earlier, same = told, slices.Clone(told)
	}
	has(t, n, twin.Accepted()...)
}

// 16.1: nil and empty bytes are the same.
func TestNilIsEmpty(t *testing.T) {
	for _, body := range [][]byte{nil, {}, make([]byte, 0, 9), []byte("abc")[3:]} {
		n := network.New()
		n.Send(api.Packet{ID: 1, Body: body})
		stands(t, n, 0, 1)
		ticks(t, n)
		has(t, n, accepted(1, 1, ""))
		ticks(t, n, 1)
	}
}

// Two Nets know nothing of one another.
func TestTwoNets(t *testing.T) {
	one, other := network.New(), network.New()
	fates(t, one, "xx9", api.OK)
	send(other, 1, "b")
	stands(t, one, 0, 0)
	stands(t, other, 0, 1)
	send(one, 1, "a")
	send(one, 1, "a")
	stands(t, one, 0, 0)
	ticks(t, other)
	stands(t, one, 0, 0)
	has(t, one)
	other.Calm()
	send(one, 1, "a") // the 9 waits still
	for range 8 {
		ticks(t, one)
	}
	has(t, one)
	ticks(t, one)
	has(t, one, accepted(1, 9, "a"))
	has(t, other, accepted(1, 1, "b"))
	ticks(t, other, 1)
	ticks(t, one, 1)
	has(t, network.New())
}

// held sends a body, and tells by a weak pointer whether its memory is still held.
func held(n *network.Net, id int) weak.Pointer[[4096]byte] {
	body := new([4096]byte)
	n.Send(api.Packet{ID: id, Body: body[:]})
	return weak.Make(body)
}

// 16.1: the memory that is handed in may go when the Send is over, whatever the fate.
func TestGivenMemoryIsLetGo(t *testing.T) {
	n := fated(t, "x19d")
	var all []weak.Pointer[[4096]byte]
	for id := range 5 {
		all = append(all, held(n, id))
	}
	for range 2 {
		runtime.GC()
		for id, p := range all {
			if p.Value() != nil {
				t.Errorf("16.1: the memory of notice %d is kept", id)
			}
		}
		n.Tick()
	}
	runtime.KeepAlive(n)
}
