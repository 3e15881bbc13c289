package timerq_test

import (
	"math/rand"
	"slices"
	"testing"

	"arrears/api"
	"arrears/timerq"
)

// model is a queue as the chapter's words say it: a list of keys with their values, gone through whole at each question.
type model struct {
	keys   []api.Timer
	values []int
}

func (m *model) find(k api.Timer) int { return slices.Index(m.keys, k) }

// isAhead says the order of keys, by asking three times which number is lesser.
func isAhead(a, b api.Timer) bool {
	if a.Day < b.Day || a.Day > b.Day {
		return a.Day < b.Day
	}
	if a.Loan < b.Loan || a.Loan > b.Loan {
		return a.Loan < b.Loan
	}
	return a.Kind < b.Kind
}

func (m *model) put(k api.Timer, v int) api.Errno {
	if m.find(k) >= 0 {
		return api.ErrKey
	}
	m.keys, m.values = append(m.keys, k), append(m.values, v)
	return api.OK
}

func (m *model) get(k api.Timer) (int, bool) {
	i := m.find(k)
	if i < 0 {
		return 0, false
	}
	return m.values[i], true
}

func (m *model) cancel(k api.Timer) bool {
	i := m.find(k)
	if i < 0 {
		return false
	}
	m.keys, m.values = slices.Delete(m.keys, i, i+1), slices.Delete(m.values, i, i+1)
	return true
}

func (m *model) move(k api.Timer, day int) api.Errno {
	v, ok := m.get(k)
	if !ok {
		return api.ErrKey
	}
	if day == k.Day {
		return api.OK
	}
	if m.find(key(day, k.Loan, k.Kind)) >= 0 {
		return api.ErrKey
	}
	m.cancel(k)
	return m.put(key(day, k.Loan, k.Kind), v)
}

func (m *model) next() (api.Timer, bool) {
	if len(m.keys) == 0 {
		return api.Timer{}, false
	}
	first := m.keys[0]
	for _, k := range m.keys {
		if isAhead(k, first) {
			first = k
		}
	}
	return first, true
}

func (m *model) popDue(day int) (api.Timer, int, bool) {
	k, ok := m.next()
	if !ok || k.Day > day {
		return api.Timer{}, 0, false
	}
	v, _ := m.get(k)
	m.cancel(k)
	return k, v, true
}

// list lays the keys in their order by taking the first, again and again.
func (m *model) list() []api.Timer {
	rest := model{slices.Clone(m.keys), slices.Clone(m.values)}
	var list []api.Timer
	for len(rest.keys) > 0 {
		k, _ := rest.next()
		rest.cancel(k)
		list = append(list, k)
	}
	return list
}

// anyNumbers makes numbers that meet often: close ones, and now and then an end of int.
func anyNumbers(random *rand.Rand, spread int) func() int {
	return func() int {
		if random.Intn(20) == 0 {
			return []int{least, least + 1, most - 1, most}[random.Intn(4)]
		}
		return random.Intn(spread) - spread/3
	}
}

// tries counts what a run did: done and refused, of each call.
type tries map[string]int

// oneCall does one call on queue and model, and holds the answers against each other.
func oneCall(t *testing.T, random *rand.Rand, number func() int, q *timerq.Queue[int], m *model, count tries) {
	t.Helper()
	k, day, v := key(number(), number(), number()), number(), random.Int()
	if len(m.keys) > 0 && random.Intn(3) > 0 {
		k = m.keys[random.Intn(len(m.keys))]
	}
	switch random.Intn(8) {
	case 0, 1, 2:
		got, want := q.Put(k, v), m.put(k, v)
		note(t, count, "11.2: Put", want == api.OK, got == want)
	case 3:
		got, ok := q.Get(k)
		want, there := m.get(k)
		note(t, count, "11.3: Get", there, got == want && ok == there)
	case 4:
		got, want := q.Cancel(k), m.cancel(k)
		note(t, count, "11.4: Cancel", want, got == want)
	case 5, 6:
		got, want := q.Move(k, day), m.move(k, day)
		note(t, count, "11.5: Move", want == api.OK, got == want)
	default:
		got, value, ok := q.PopDue(day)
		want, wanted, there := m.popDue(day)
		note(t, count, "11.7: PopDue", there, got == want && value == wanted && ok == there)
	}
}

func note(t *testing.T, count tries, call string, done, agree bool) {
	t.Helper()
	if !agree {
		t.Fatalf("%s is not as the model says", call)
	}
	if done {
		count[call+" done"]++
	} else {
		count[call+" refused"]++
	}
}

// agrees holds all that a queue tells against the model.
func agrees(t *testing.T, q *timerq.Queue[int], m *model) {
	t.Helper()
	want := m.list()
	if got := q.List(); !slices.Equal(got, want) || q.Len() != len(want) {
		t.Fatalf("11.8: List() = %v, Len() = %d, want %v", got, q.Len(), want)
	}
	k, ok := q.Next()
	if first, there := m.next(); k != first || ok != there {
		t.Fatalf("11.6: Next() = %v, %v, want %v, %v", k, ok, first, there)
	}
	for i, k := range m.keys {
		if v, ok := q.Get(k); v != m.values[i] || !ok {
			t.Fatalf("11.3: Get(%v) = %d, %v, want %d", k, v, ok, m.values[i])
		}
	}
}

// 11.2 to 11.8: calls in any order answer what the model answers, and leave what it leaves.
func TestAgainstModel(t *testing.T) {
	random, count := rand.New(rand.NewSource(1102)), tries{}
	for run := range 600 {
		number := anyNumbers(random, 2+run%11)
		q, m := timerq.New[int](), &model{}
		for range random.Intn(120) {
			oneCall(t, random, number, q, m, count)
			agrees(t, q, m)
		}
	}
	for _, call := range []string{"11.2: Put", "11.3: Get", "11.4: Cancel", "11.5: Move", "11.7: PopDue"} {
		for _, end := range []string{" done", " refused"} {
			if count[call+end] < 500 {
				t.Errorf("too few of a kind: %s%s %d", call, end, count[call+end])
			}
		}
	}
}

// 11.2 to 11.8: so it is in great queues too, of some hundreds of keys.
func TestAgainstModelAtSize(t *testing.T) {
	random, count := rand.New(rand.NewSource(1103)), tries{}
	number := anyNumbers(random, 100)
	q, m := timerq.New[int](), &model{}
	for range 700 {
		k, v := key(number(), number(), number()), random.Int()
		note(t, count, "11.2: Put", true, q.Put(k, v) == m.put(k, v))
	}
	for step := range 6000 {
		oneCall(t, random, number, q, m, count)
		if step%200 == 0 {
			agrees(t, q, m)
		}
	}
	agrees(t, q, m)
	if count["11.4: Cancel done"] < 300 || count["11.5: Move done"] < 500 || count["11.7: PopDue done"] < 300 {
		t.Errorf("too few of a kind: %v", count)
	}
}
