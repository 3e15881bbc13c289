package lockbox_test

import (
	"bytes"
	"fmt"
	"math"
	"slices"
	"strings"
	"testing"

	"arrears/api"
	"arrears/lockbox"
	"arrears/script"
	"arrears/servicer"
	"arrears/wire"
)

const most, least = math.MaxInt64, math.MinInt64

// first is the day on which the tests' portfolios begin: 2021-07-29.
const first = 738000

// The lines of the chapter's file.
const (
	headerLine  = "H20210729000012\n"
	firstLine   = "D00010000075000000010000\n"
	secondLine  = "D00024501235000000000005\n"
	trailerLine = "T000200000000000100050000450130\n"

	exampleFile = headerLine + firstLine + secondLine + trailerLine
)

// exampleBatch is what the chapter's file says.
func exampleBatch() api.Batch {
	return api.Batch{Day: first, Number: 12, Items: []api.Item{{Loan: 7, Amount: 10000}, {Loan: 450123, Amount: 5}}}
}

// rules is the policy of the tests, with a snapshot behind so many records.
func rules(every int) api.Policy {
	return api.Policy{
		FirstDay: first, Grace: 5, NonAccrual: 30, ChargeOff: 60,
		LateRate: 500, LateMax: 5000, CycleCap: 10000, LifeCap: 20000,
		Promises: 1, PromiseDays: 10, Restructures: 1, RetryBase: 1, RetryCap: 8, SnapEvery: every,
	}
}

// sameBatch compares batches.
func sameBatch(a, b api.Batch) bool {
	return a.Day == b.Day && a.Number == b.Number && slices.Equal(a.Items, b.Items)
}

// sameReply compares replies.
func sameReply(a, b api.Reply) bool { return a.Err == b.Err && slices.Equal(a.Nums, b.Nums) }

// sameState compares portfolios by their one byte form.
func sameState(a, b api.State) bool {
	return bytes.Equal(wire.EncodeState(a), wire.EncodeState(b))
}

// reads holds Parse of a file to a batch.
func reads(t *testing.T, file string, want api.Batch) {
	t.Helper()
	if b, why, line := lockbox.Parse([]byte(file)); !sameBatch(b, want) || why != api.OK || line != 0 {
		t.Errorf("20.4: Parse(%.120q) = %+v, %d, %d, want %+v, 0, 0", file, b, why, line, want)
	}
}

// refuses holds Parse of a file to an error in a line.
func refuses(t *testing.T, file string, why api.Errno, line int) {
	t.Helper()
	b, gotWhy, gotLine := lockbox.Parse([]byte(file))
	if b.Day != 0 || b.Number != 0 || len(b.Items) != 0 || gotWhy != why || gotLine != line {
		t.Errorf("20.4: Parse(%.120q) = %+v, %d, %d, want nothing, %d, %d", file, b, gotWhy, gotLine, why, line)
	}
}

// tells holds Format of a batch to a file.
func tells(t *testing.T, b api.Batch, want string) {
	t.Helper()
	if file, ok := lockbox.Format(b); string(file) != want || !ok {
		t.Errorf("20.5: Format(%+v) = %.120q, %v, want %.120q, true", b, file, ok, want)
	}
}

// digit holds CheckDigit of a number to its answer.
func digit(t *testing.T, number, want int, wantOK bool) {
	t.Helper()
	if got, ok := lockbox.CheckDigit(number); got != want || ok != wantOK {
		t.Errorf("20.2: CheckDigit(%d) = %d, %v, want %d, %v", number, got, ok, want, wantOK)
	}
}

// valid holds Valid of digits to its answer.
func valid(t *testing.T, digits string, want bool) {
	t.Helper()
	if got := lockbox.Valid(digits); got != want {
		t.Errorf("20.3: Valid(%.60q) = %v, want %v", digits, got, want)
	}
}

// shop is a servicer to which the files are posted.
type shop struct {
	t *testing.T
	p api.Policy
	s *servicer.Servicer
}

// open is a shop to which these lines came.
func open(t *testing.T, p api.Policy, lines ...string) *shop {
	t.Helper()
	s, why := servicer.New(p)
	if why != api.OK {
		t.Fatalf("19.10: New = %d", why)
	}
	w := &shop{t, p, s}
	w.does(lines...)
	return w
}

// resumed is a shop on a disk with these bytes.
func resumed(t *testing.T, p api.Policy, a, b []byte) *shop {
	t.Helper()
	s, why := servicer.Resume(p, a, b)
	if why != api.OK {
		t.Fatalf("19.15: Resume = %d", why)
	}
	return &shop{t, p, s}
}

// again is a shop on a copy of this one's disk.
func (w *shop) again() *shop {
	w.t.Helper()
	a, b := w.s.Files()
	return resumed(w.t, w.p, a, b)
}

// does does what lines say, which must be taken.
func (w *shop) does(lines ...string) {
	w.t.Helper()
	for _, line := range lines {
		op, why, _ := script.Parse([]byte(line))
		if r := w.s.Do(op); why != api.OK || r.Err != api.OK {
			w.t.Fatalf("%q is answered %d", line, r.Err)
		}
	}
}

// whole is all that can be seen of a servicer, so that it can be compared.
type whole struct {
	state, first, second string
	accepted, pending    string
	writes               int
}

func (w *shop) whole() whole {
	a, b := w.s.Files()
	return whole{string(wire.EncodeState(w.s.State())), string(a), string(b), fmt.Sprint(w.s.Accepted()), fmt.Sprint(w.s.Pending()), w.s.Writes()}
}

// posts posts a file of the day, and tells the replies.
func (w *shop) posts(file string) []api.Reply {
	w.t.Helper()
	replies, why, line := lockbox.Post(w.s, []byte(file))
	if why != api.OK || line != 0 {
		w.t.Fatalf("20.7: Post(%.120q) = %v, %d, %d", file, replies, why, line)
	}
	return replies
}

// answers posts a file and holds the replies' errors to these.
func (w *shop) answers(file string, want ...api.Errno) {
	w.t.Helper()
	var got []api.Errno
	for _, r := range w.posts(file) {
		got = append(got, r.Err)
	}
	if !slices.Equal(got, want) {
		w.t.Fatalf("20.7: Post(%.120q) is answered %v, want %v", file, got, want)
	}
}

// The chapter's examples, row by row.
func TestExamples(t *testing.T) {
	digit(t, 7, 5, true)
	digit(t, 450123, 5, true)
	digit(t, 0, 0, true)
	digit(t, 1000000, 0, false)

	for digits, want := range map[string]bool{"75": true, "0000075": true, "57": false, "7": false, "": false, "7 5": false} {
		valid(t, digits, want)
	}

	reads(t, exampleFile, exampleBatch())
	tells(t, exampleBatch(), exampleFile)
	ops := []api.Op{{Kind: api.OpPay, Loan: 7, Amount: 10000, Count: 120001}, {Kind: api.OpPay, Loan: 450123, Amount: 5, Count: 120002}}
	if got := lockbox.Ops(exampleBatch()); !slices.Equal(got, ops) {
		t.Errorf("20.6: Ops = %+v, want %+v", got, ops)
	}

	refuses(t, "", api.ErrForm, 0)
	refuses(t, headerLine[:15], api.ErrForm, 0)
	refuses(t, headerLine, api.ErrForm, 1)
	refuses(t, strings.Replace(exampleFile, "0000075", "0000057", 1), api.ErrDigit, 1)
	refuses(t, headerLine+secondLine+firstLine+trailerLine, api.ErrOrder, 1)
	refuses(t, headerLine+firstLine+trailerLine, api.ErrTotal, 2)
	refuses(t, exampleFile+firstLine, api.ErrForm, 4)
	refuses(t, exampleFile+"\n", api.ErrForm, 4)
	refuses(t, strings.Replace(exampleFile, "20210729", "20210229", 1), api.ErrForm, 0)

	w := open(t, rules(0), "open 7 1200.00 0 12 equal", "day 1")
	if replies, why, line := lockbox.Post(w.s, []byte(exampleFile)); len(replies) != 0 || why != api.ErrDate || line != 0 {
		t.Errorf("20.7: Post on the day behind = %v, %d, %d", replies, why, line)
	}
}
