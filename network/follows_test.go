package network_test

import (
	"fmt"
	"math/rand"
	"slices"
	"testing"

	"arrears/api"
	"arrears/network"
)

// story is a network with what was sent over it.
type story struct {
	n      *network.Net
	random *rand.Rand
	sent   map[string]int // how often these bytes were sent under this number
}

func newStory(random *rand.Rand) *story {
	return &story{n: network.New(), random: random, sent: map[string]int{}}
}

func under(id int, body string) string { return fmt.Sprint(id, " ", body) }

func (s *story) sends() {
	id, body := s.random.Intn(9), fmt.Sprint(s.random.Intn(100))
	send(s.n, id, body)
	s.sent[under(id, body)]++
}

// stirs does what a run has at any time: fates, notices, now and then a Calm.
func (s *story) stirs() {
	if s.random.Intn(2) == 0 {
		s.n.Fate(letters(s.random))
	}
	if s.random.Intn(20) == 0 {
		s.n.Calm()
	}
	for range s.random.Intn(4) {
		s.sends()
	}
}

// holds tells whether a notice of this number is on the list.
func holds(list []api.Accepted, id int) bool {
	return slices.ContainsFunc(list, func(a api.Accepted) bool { return a.ID == id })
}

// stays holds what was accepted to its bytes and to its place.
func stays(t *testing.T, before, after []api.Accepted) {
	t.Helper()
	if len(after) < len(before) || !slices.EqualFunc(after[:len(before)], before, sameAccepted) {
		t.Fatalf("16.8: of %v was left %v", before, after)
	}
}

// 16.8: each number is accepted once at most, with bytes that were sent under it, at the tick of now; what was accepted stays where it stands; an acknowledgement is one of a notice that was accepted at an earlier tick.
func TestWhatFollows(t *testing.T) {
	random := rand.New(rand.NewSource(1608))
	told, taken := 0, 0
	for range 200 {
		s := newStory(random)
		for range 80 {
			s.stirs()
			before := s.n.Accepted()
			numbers := s.n.Tick()
			after := s.n.Accepted()
			follows(t, s, before, after, numbers)
			told, taken = told+len(numbers), taken+len(after)-len(before)
		}
	}
	if told < 5000 || taken < 1500 {
		t.Errorf("too few of a kind: %d acknowledgements, %d accepted", told, taken)
	}
}

func follows(t *testing.T, s *story, before, after []api.Accepted, numbers []int) {
	t.Helper()
	stays(t, before, after)
	for i, a := range after {
		if s.sent[under(a.ID, string(a.Body))] == 0 {
			t.Fatalf("16.8: accepted %v, which was not sent", a)
		}
		if holds(after[:i], a.ID) {
			t.Fatalf("16.8: %d is accepted twice: %v", a.ID, after)
		}
		if i >= len(before) && a.Tick != s.n.Now() {
			t.Fatalf("16.6: accepted %v at tick %d", a, s.n.Now())
		}
	}
	for _, id := range numbers {
		if !holds(before, id) {
			t.Fatalf("16.8: an acknowledgement of %d, of which %v was accepted ahead of it", id, before)
		}
	}
}

// 16.8: behind a Calm a notice is accepted in the next Tick, if its number was not before, and the Tick behind that tells its number.
func TestCalmIsPrompt(t *testing.T) {
	random := rand.New(rand.NewSource(1609))
	fresh, again := 0, 0
	for range 300 {
		s := newStory(random)
		for range random.Intn(30) {
			s.stirs()
			s.n.Tick()
		}
		s.n.Calm()
		for range 12 {
			if prompt(t, s) {
				fresh++
			} else {
				again++
			}
		}
	}
	if fresh < 300 || again < 300 {
		t.Errorf("too few of a kind: %d fresh numbers, %d that came again", fresh, again)
	}
}

// prompt sends a notice over a calm network, and tells whether it was the first of its number to arrive.
func prompt(t *testing.T, s *story) bool {
	t.Helper()
	id := s.random.Intn(40)
	before := s.n.Accepted()
	send(s.n, id, "calm")
	s.n.Tick()
	after := s.n.Accepted()
	if !holds(after, id) {
		t.Fatalf("16.8: %d was sent over a calm network, and a Tick later accepted is %v", id, after)
	}
	stays(t, before, after)
	if numbers := s.n.Tick(); !slices.Contains(numbers, id) {
		t.Fatalf("16.8: two Ticks behind the Send of %d come %v", id, numbers)
	}
	return !holds(before, id)
}

// 16.8: behind a Calm, and ten Ticks without a Send, nothing is on its way.
func TestCalmEmpties(t *testing.T) {
	random := rand.New(rand.NewSource(1610))
	most := 0
	for range 500 {
		s := newStory(random)
		for range random.Intn(30) {
			s.stirs()
			s.n.Tick()
		}
		s.stirs()
		s.n.Calm()
		most = max(most, s.n.Flying())
		for range 10 {
			s.n.Tick()
		}
		stands(t, s.n, s.n.Now(), 0)
		before := s.n.Accepted()
		ticks(t, s.n)
		has(t, s.n, before...)
	}
	if most < 10 {
		t.Errorf("too few of a kind: at most %d on their way", most)
	}
}

// 16.8: ten Ticks are needed: a notice may be nine on its way, and its acknowledgement one more.
func TestTenTicks(t *testing.T) {
	n := fated(t, "9")
	send(n, 1, "a")
	n.Calm()
	for range 9 {
		ticks(t, n)
	}
	stands(t, n, 9, 1)
	ticks(t, n, 1)
	stands(t, n, 10, 0)
}
