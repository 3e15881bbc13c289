package network_test

import (
	"fmt"
	"math/rand"
	"slices"
	"strings"
	"testing"

	"arrears/api"
	"arrears/network"
)

// message is one that was handed over, with the ticks at which its copies arrive.
type message struct {
	ack      bool
	id       int
	body     string
	arrivals []int
}

// model is a network as the chapter's words say it: it remembers every message, and looks at all of them at every question.
type model struct {
	now      int
	waiting  string
	messages []message
	taken    []api.Accepted
}

func (m *model) fate(letters string) api.Errno {
	switch {
	case len(letters) > 64:
		return api.ErrLong
	case letters == "" || strings.Trim(letters, "123456789xd") != "":
		return api.ErrFate
	case len(m.waiting)+len(letters) > 4096:
		return api.ErrLong
	}
	m.waiting += letters
	return api.OK
}

// handOver takes the first fate, and notes when the copies arrive.
func (m *model) handOver(msg message) {
	fate := "1"
	if m.waiting != "" {
		fate, m.waiting = m.waiting[:1], m.waiting[1:]
	}
	switch fate {
	case "x":
	case "d":
		msg.arrivals = []int{m.now + 1, m.now + 2}
	default:
		msg.arrivals = []int{m.now + strings.Index("0123456789", fate)}
	}
	m.messages = append(m.messages, msg)
}

func (m *model) send(id int, body string) { m.handOver(message{id: id, body: body}) }

func (m *model) has(id int) bool {
	return slices.ContainsFunc(m.taken, func(a api.Accepted) bool { return a.ID == id })
}

func (m *model) tick() []int {
	m.now++
	var told []int
	for _, msg := range slices.Clone(m.messages) {
		if !slices.Contains(msg.arrivals, m.now) {
			continue
		}
		if msg.ack {
			told = append(told, msg.id)
			continue
		}
		if !m.has(msg.id) {
			m.taken = append(m.taken, accepted(msg.id, m.now, msg.body))
		}
		m.handOver(message{ack: true, id: msg.id})
	}
	return told
}

func (m *model) flying() int {
	count := 0
	for _, msg := range m.messages {
		for _, tick := range msg.arrivals {
			if tick > m.now {
				count++
			}
		}
	}
	return count
}

// step is one call: the letters of a fate, or the number and the body of a send.
type step struct {
	call, text string
	id         int
}

// play does steps on network and model, and holds all answers, and all that can be asked behind each, against each other.
func play(t *testing.T, steps []step) {
	t.Helper()
	n, m := network.New(), &model{}
	for i, s := range steps {
		got, want := "", ""
		switch s.call {
		case "fate":
			got, want = fmt.Sprint(n.Fate(s.text)), fmt.Sprint(m.fate(s.text))
		case "calm":
			n.Calm()
			m.waiting = ""
		case "send":
			send(n, s.id, s.text)
			m.send(s.id, s.text)
		case "tick":
			got, want = fmt.Sprint(n.Tick()), fmt.Sprint(m.tick())
		}
		got += fmt.Sprint(" now ", n.Now(), " flying ", n.Flying())
		want += fmt.Sprint(" now ", m.now, " flying ", m.flying())
		if list := n.Accepted(); got != want || !slices.EqualFunc(list, m.taken, sameAccepted) {
			t.Fatalf("16.2 to 16.7: behind %v: %s accepted %v, want %s accepted %v", steps[:i+1], got, list, want, m.taken)
		}
	}
}

// 16.2 to 16.7: every row of five steps, of a small set, with ticks behind it.
func TestAllShortRows(t *testing.T) {
	set := []step{
		{call: "fate", text: "x"},
		{call: "fate", text: "2d"},
		{call: "fate", text: "d3x"},
		{call: "fate", text: "1y"},
		{call: "calm"},
		{call: "send", id: 1, text: "a"},
		{call: "send", id: 1, text: "b"},
		{call: "send", id: 2, text: "c"},
		{call: "tick"},
	}
	var row []step
	var longer func()
	longer = func() {
		if len(row) == 5 {
			play(t, slices.Concat(row, slices.Repeat([]step{{call: "tick"}}, 6)))
			return
		}
		for _, s := range set {
			row = append(row, s)
			longer()
			row = row[:len(row)-1]
		}
	}
	longer()
}

// letters makes fates by lot; few of them are refused.
func letters(random *rand.Rand) string {
	switch random.Intn(30) {
	case 0:
		return []string{"", "0", "12é", "1 1", "D", "xX", "\xff"}[random.Intn(7)]
	case 1:
		return strings.Repeat("d", 63+random.Intn(3))
	}
	text := ""
	for range 1 + random.Intn(6) {
		text += string("x123456789dd"[random.Intn(12)])
	}
	return text
}

// chosen is a step by lot.
func chosen(random *rand.Rand, numbers int) step {
	switch random.Intn(20) {
	case 0, 1, 2:
		return step{call: "fate", text: letters(random)}
	case 3:
		if random.Intn(4) == 0 {
			return step{call: "calm"}
		}
		return step{call: "tick"}
	case 4, 5, 6, 7, 8, 9, 10:
		return step{call: "tick"}
	}
	return step{call: "send", id: random.Intn(numbers) - numbers/3, text: fmt.Sprint(random.Intn(1000))}
}

// 16.2 to 16.7: long rows of steps, of few numbers that meet often and of many.
func TestLongRows(t *testing.T) {
	random := rand.New(rand.NewSource(1602))
	for run := range 300 {
		var row []step
		for range 200 {
			row = append(row, chosen(random, 1+run%40))
		}
		play(t, row)
	}
}

// 16.3: a queue is filled to its end by rows of fates of any length, and taken from meanwhile.
func TestLongQueue(t *testing.T) {
	random := rand.New(rand.NewSource(1603))
	n, m := network.New(), &model{}
	refused := 0
	for range 3000 {
		text := strings.Repeat("x", 1+random.Intn(64))
		got, want := n.Fate(text), m.fate(text)
		if got != want {
			t.Fatalf("16.3: Fate of %d letters, behind %d that wait, = %d, want %d", len(text), len(m.waiting), got, want)
		}
		if want != api.OK {
			refused++
		}
		for range random.Intn(40) {
			send(n, 1, "")
			m.send(1, "")
		}
	}
	if refused < 300 || refused > 2700 {
		t.Errorf("too few of a kind: %d of 3000 refused", refused)
	}
}
