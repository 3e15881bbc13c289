package servicer_test

import (
	"bytes"
	"math"
	"slices"
	"strings"
	"testing"

	"arrears/api"
	"arrears/script"
	"arrears/servicer"
)

const most, least = math.MaxInt64, math.MinInt64

// first is the day on which the tests' portfolios begin: 2021-07-29, a Thursday.
const first = 738000

// example is the policy of the chapter's examples.
func example() api.Policy {
	return api.Policy{
		FirstDay: first, Grace: 5, NonAccrual: 30, ChargeOff: 60,
		LateRate: 500, LateMin: 0, LateMax: 5000, CycleCap: 10000, LifeCap: 20000,
		Promises: 1, PromiseDays: 10, Restructures: 1,
		Order: 0, Rule: 0, RetryBase: 1, RetryCap: 8, SnapEvery: 0,
	}
}

// with is the policy of the examples with a change.
func with(change func(p *api.Policy)) api.Policy {
	p := example()
	change(&p)
	return p
}

// snapping is the policy of the examples with a snapshot behind so many records.
func snapping(every int) api.Policy {
	return with(func(p *api.Policy) { p.SnapEvery = every })
}

// sameLoan compares loans; a plan without rows may be nil or empty.
func sameLoan(a, b api.Loan) bool {
	return a.ID == b.ID && a.Terms == b.Terms && slices.Equal(a.Plan, b.Plan) && a.Book == b.Book && a.Case == b.Case &&
		a.Day == b.Day && a.Carry == b.Carry && a.Applied == b.Applied && a.Last == b.Last && a.HasLast == b.HasLast &&
		a.ChargedOff == b.ChargedOff && a.Trace == b.Trace
}

// sameState compares portfolios, acknowledgements too.
func sameState(a, b api.State) bool {
	return a.Today == b.Today && slices.EqualFunc(a.Loans, b.Loans, sameLoan) && slices.Equal(a.Notices, b.Notices)
}

// unmarked is a portfolio without what is acknowledged.
func unmarked(s api.State) api.State {
	s.Notices = slices.Clone(s.Notices)
	for i := range s.Notices {
		s.Notices[i].Acked = false
	}
	return s
}

// sameReply compares replies.
func sameReply(a, b api.Reply) bool {
	return a.Err == b.Err && slices.Equal(a.Nums, b.Nums)
}

// sameAccepted compares what the receiver took.
func sameAccepted(a, b []api.Accepted) bool {
	return slices.EqualFunc(a, b, func(x, y api.Accepted) bool {
		return x.ID == y.ID && x.Tick == y.Tick && bytes.Equal(x.Body, y.Body)
	})
}

// samePending compares what is still sent.
func samePending(a, b []api.Pending) bool {
	return slices.EqualFunc(a, b, func(x, y api.Pending) bool {
		return x.ID == y.ID && x.Attempts == y.Attempts && x.Next == y.Next && bytes.Equal(x.Body, y.Body)
	})
}

// story is a servicer's life, line by line.
type story struct {
	t *testing.T
	p api.Policy
	s *servicer.Servicer
}

// begin is a new servicer.
func begin(t *testing.T, p api.Policy) *story {
	t.Helper()
	s, why := servicer.New(p)
	if s == nil || why != api.OK {
		t.Fatalf("19.10: New(%+v) = %v, %d", p, s, why)
	}
	return &story{t, p, s}
}

// resumed is a servicer on a disk with these bytes.
func resumed(t *testing.T, p api.Policy, a, b []byte) *story {
	t.Helper()
	s, why := servicer.Resume(p, a, b)
	if s == nil || why != api.OK {
		t.Fatalf("19.15: Resume over %d and %d bytes = %v, %d", len(a), len(b), s, why)
	}
	return &story{t, p, s}
}

// again is a servicer on a copy of this one's disk.
func (s *story) again() *story {
	s.t.Helper()
	a, b := s.s.Files()
	return resumed(s.t, s.p, a, b)
}

// op reads a line.
func op(t *testing.T, line string) api.Op {
	t.Helper()
	o, why, place := script.Parse([]byte(line))
	if why != api.OK {
		t.Fatalf("%q is no command: %d at %d", line, why, place)
	}
	return o
}

// says does what a line says, and holds it to its answer.
func (s *story) says(line, want string) {
	s.t.Helper()
	if got := script.Show(s.s.Do(op(s.t, line))); got != want {
		s.t.Fatalf("%q is answered %q, want %q", line, got, want)
	}
}

// does does what lines say, which must be taken.
func (s *story) does(lines ...string) {
	s.t.Helper()
	for _, line := range lines {
		if r := s.s.Do(op(s.t, line)); r.Err != api.OK {
			s.t.Fatalf("%q is answered %q", line, script.Show(r))
		}
	}
}

// files are the bytes of both files as texts.
func (s *story) files() [2]string {
	a, b := s.s.Files()
	return [2]string{string(a), string(b)}
}

// whole is all that can be seen of a servicer.
type whole struct {
	state    api.State
	accepted []api.Accepted
	pending  []api.Pending
	writes   int
	files    [2]string
}

func (s *story) whole() whole {
	return whole{s.s.State(), s.s.Accepted(), s.s.Pending(), s.s.Writes(), s.files()}
}

func sameWhole(a, b whole) bool {
	return sameState(a.state, b.state) && sameAccepted(a.accepted, b.accepted) && samePending(a.pending, b.pending) &&
		a.writes == b.writes && a.files == b.files
}

// refuses holds operations to their refusal, by which nothing changes.
func (s *story) refuses(why api.Errno, list ...api.Op) {
	s.t.Helper()
	before := s.whole()
	for _, o := range list {
		if r := s.s.Do(o); !sameReply(r, api.Reply{Err: why}) {
			s.t.Errorf("Do(%+v) = %d %v, want %d", o, r.Err, r.Nums, why)
		}
		if !sameWhole(s.whole(), before) {
			s.t.Fatalf("W7: %+v is refused and changes something", o)
		}
	}
}

// tale is lines and their answers.
type tale [][2]string

// plays plays a script whole, by Text and line by line by Do.
func plays(t *testing.T, p api.Policy, lines tale) {
	t.Helper()
	var text, want strings.Builder
	s := begin(t, p)
	for _, l := range lines {
		text.WriteString(l[0] + "\n")
		want.WriteString(l[1] + "\n")
		if _, why, _ := script.Parse([]byte(l[0])); why == api.OK {
			s.says(l[0], l[1])
		}
	}
	if got := servicer.Text(p, []byte(text.String())); got != want.String() {
		t.Errorf("19.12: Text answers\n%swant\n%s", got, want.String())
	}
}

// DOC.md's example, line by line.
func TestTheDocumentsExample(t *testing.T) {
	plays(t, example(), tale{
		{"open 7 1200.00 0 12 equal", "ok 12 738031 10000"},
		{"day 37", "ok 738037 2"},
		{"loan 7", "ok 3 6 1 10000 500 0 120000 0 0 1 0 0 0 0 0 0 738097 738031 500 0 0"},
		{"promise 7 100.00 10", "ok 738047 738107"},
		{"pay 7 105.00", "ok 500 0 10000 0 0 6"},
		{"tick 3", "ok 6 3 3"},
		{"notices", "ok 3 3 3"},
		{"pay 9 1.00", "error 150"},
		{"pay 7 x", "error 182 6"},
		{"crash 1 0", "ok"},
		{"day 1", "error 190 1 5 1"},
		{"today", "ok 738037 1"},
	})
}

// The chapter's examples.
func TestTheChaptersExamples(t *testing.T) {
	plays(t, example(), tale{
		{"today", "ok 738000 0"},
		{"open 7 1200.00 0 12 equal", "ok 12 738031 10000"},
		{"pay 7 100.00", "ok 0 0 10000 0 0 1"},
		{"pay 8 1.00", "error 150"},
		{"crash 1 0", "ok"},
		{"pay 7 1.00", "error 190 1 2 1"},
		{"loan 7", "ok 1 0 0 0 0 0 110000 0 0 0 0 0 0 0 0 0 0 738062 0 0 0"},
		{"crash 2 1000", "ok"},
		{"pay 7 1.00", "error 190 1 3 1"},
		{"loan 7", "ok 1 0 0 0 0 0 109900 0 0 0 0 0 0 0 0 0 0 738062 0 0 0"},
		{"crash 1 5", "ok"},
		{"crash 1 0", "ok"},
		{"pay 7 1.00", "error 190 2 3 1"},
		{"loan 7", "ok 1 0 0 0 0 0 109900 0 0 0 0 0 0 0 0 0 0 738062 0 0 0"},
		{"restart", "ok 1 3 0"},
		{"compact", "ok 2"},
		{"restart", "ok 2 0 0"},
		{"pay 7", "error 181 5"},
	})
}

// The chapter's example of a refused line and the writes.
func TestExampleOfWrites(t *testing.T) {
	s := begin(t, example())
	if s.s.Writes() != 2 {
		t.Errorf("19.10: New makes %d writes", s.s.Writes())
	}
	s.does("open 7 1200.00 0 12 equal", "pay 7 100.00")
	s.refuses(api.ErrNoLoan, op(t, "pay 8 1.00"))
	if s.s.Writes() != 6 {
		t.Errorf("19.13: behind two operations there are %d writes", s.s.Writes())
	}
}

// The chapter's examples of Resume.
func TestExamplesOfResume(t *testing.T) {
	s, empty := begin(t, example()), resumed(t, example(), nil, nil)
	if !sameWhole(empty.whole(), s.whole()) || len(s.files()[0]) == 0 || s.files()[1] != "" {
		t.Errorf("19.15: Resume over two empty files is not as New is: %+v", empty.whole())
	}
	s.does("open 7 1200.00 0 12 equal", "pay 7 100.00")
	before := s.s.State()
	s.does("pay 7 1.00")
	a, b := s.s.Files()
	u := resumed(t, s.p, a[:len(a)-1], b)
	if !sameState(u.s.State(), before) {
		t.Errorf("19.15: without the last byte the portfolio is %+v, want %+v", u.s.State(), before)
	}
	u.says("restart", "ok 1 2 0")
}
