package script_test

import (
	"slices"
	"strings"
	"testing"

	"arrears/api"
	"arrears/script"
)

// texts are lines of bytes as texts.
func texts(lines [][]byte) []string {
	var list []string
	for _, line := range lines {
		list = append(list, string(line))
	}
	return list
}

// cuts holds Lines of a text to these lines.
func cuts(t *testing.T, text string, want ...string) {
	t.Helper()
	if got := texts(script.Lines([]byte(text))); !slices.Equal(got, want) {
		t.Errorf("18.1: Lines(%.60q) = %.60q, want %.60q", text, got, want)
	}
}

// reads holds Parse of a line to this operation.
func reads(t *testing.T, line string, want api.Op) {
	t.Helper()
	if op, why, place := script.Parse([]byte(line)); op != want || why != api.OK || place != 0 {
		t.Errorf("18.2: Parse(%q) = %+v, %d, %d, want %+v, 0, 0", line, op, why, place, want)
	}
}

// refuses holds Parse of a line to this error at this place.
func refuses(t *testing.T, line string, why api.Errno, place int) {
	t.Helper()
	op, gotWhy, gotPlace := script.Parse([]byte(line))
	if op != (api.Op{}) || gotWhy != why || gotPlace != place {
		t.Errorf("18.2: Parse(%.110q) = %+v, %d, %d, want nothing, %d, %d", line, op, gotWhy, gotPlace, why, place)
	}
}

// tells holds Format of an operation to this line.
func tells(t *testing.T, op api.Op, want string) {
	t.Helper()
	if line, ok := script.Format(op); line != want || !ok {
		t.Errorf("18.3: Format(%+v) = %q, %v, want %q, true", op, line, ok, want)
	}
}

// untold holds Format of an operation to a refusal.
func untold(t *testing.T, op api.Op) {
	t.Helper()
	if line, ok := script.Format(op); line != "" || ok {
		t.Errorf("18.3: Format(%+v) = %.110q, %v, want an empty text, false", op, line, ok)
	}
}

// shows holds Show of a reply to this text.
func shows(t *testing.T, want string, why api.Errno, numbers ...int64) {
	t.Helper()
	if text := script.Show(api.Reply{Err: why, Nums: numbers}); text != want {
		t.Errorf("18.4: Show({%d %v}) = %q, want %q", why, numbers, text, want)
	}
}

// The chapter's examples, row by row.
func TestExamples(t *testing.T) {
	cuts(t, "pay 1 2.00\n\n# a remark\n today\n#", "pay 1 2.00", " today")
	cuts(t, "")
	cuts(t, "a\r\n", "a\r")

	reads(t, "open 7 1000.00 1250 12 level", api.Op{Kind: 1, Loan: 7, Amount: 100000, Rate: 1250, Count: 12, Days: 0})
	reads(t, "restructure 7 24 900", api.Op{Kind: 7, Loan: 7, Count: 24, Rate: 900})
	reads(t, "crash 3 10", api.Op{Kind: 12, Count: 3, Days: 10})
	reads(t, "fate x3d", api.Op{Kind: 10, Text: "x3d"})
	reads(t, "pay 0 -1.00", api.Op{Kind: 2, Loan: 0, Amount: -100})
	for _, line := range []string{"", " today", "Today", "pays 1 1.00"} {
		refuses(t, line, api.ErrCommand, 0)
	}
	refuses(t, "today ", api.ErrFields, 6)
	refuses(t, "pay 1", api.ErrFields, 5)
	refuses(t, "pay  1 2.00", api.ErrFields, 11)
	refuses(t, "pay 01 2.00", api.ErrNumber, 4)
	refuses(t, "pay 1 2", api.ErrNumber, 6)
	refuses(t, "pay x y", api.ErrNumber, 4)
	refuses(t, "pay  2.00", api.ErrNumber, 4)
	refuses(t, "day -0", api.ErrNumber, 4)
	refuses(t, "day 1234567890123456789", api.ErrNumber, 4)
	reads(t, "day -123456789012345678", api.Op{Kind: 8, Days: -123456789012345678})
	refuses(t, "open 1 1.00 0 1 Level", api.ErrNumber, 16)
	refuses(t, "fate "+strings.Repeat("x", 96), api.ErrLong, 0)
	reads(t, "fate "+strings.Repeat("x", 95), api.Op{Kind: 10, Text: strings.Repeat("x", 95)})

	tells(t, api.Op{Kind: 2, Loan: 7, Amount: -5}, "pay 7 -0.05")
	tells(t, api.Op{Kind: 21, Loan: 9, Text: "?"}, "today")
	untold(t, api.Op{Kind: 10, Text: "a b"})
	untold(t, api.Op{Kind: 0})
	untold(t, api.Op{Kind: 8, Days: 1000000000000000000})

	shows(t, "ok", api.OK)
	shows(t, "ok 5 -7", api.OK, 5, -7)
	shows(t, "error 150", api.ErrNoLoan)
	shows(t, "error 190 1 0 2", api.ErrCrashed, 1, 0, 2)
}

// The lines of the document's own example are commands, and the faults it tells are found at their places.
func TestDocumentsLines(t *testing.T) {
	text := "open 7 1200.00 0 12 equal\nday 37\nloan 7\npromise 7 100.00 10\npay 7 105.00\ntick 3\nnotices\npay 9 1.00\npay 7 x\ncrash 1 0\nday 1\ntoday\n"
	ops := []api.Op{
		{Kind: api.OpOpen, Loan: 7, Amount: 120000, Count: 12, Days: api.PlanEqual},
		{Kind: api.OpDay, Days: 37},
		{Kind: api.OpLoan, Loan: 7},
		{Kind: api.OpPromise, Loan: 7, Amount: 10000, Days: 10},
		{Kind: api.OpPay, Loan: 7, Amount: 10500},
		{Kind: api.OpTick, Days: 3},
		{Kind: api.OpNotices},
		{Kind: api.OpPay, Loan: 9, Amount: 100},
		{},
		{Kind: api.OpCrash, Count: 1},
		{Kind: api.OpDay, Days: 1},
		{Kind: api.OpToday},
	}
	lines := texts(script.Lines([]byte(text)))
	if len(lines) != len(ops) {
		t.Fatalf("18.1: Lines tells %d lines, want %d", len(lines), len(ops))
	}
	for i, line := range lines {
		if i == 8 {
			refuses(t, line, api.ErrNumber, 6)
			continue
		}
		reads(t, line, ops[i])
		tells(t, ops[i], line)
	}
	shows(t, "ok 3 6 1 10000 500 0 120000 0 0 1 0 0 0 0 0 0 738097 738031 500 0 0", api.OK,
		3, 6, 1, 10000, 500, 0, 120000, 0, 0, 1, 0, 0, 0, 0, 0, 0, 738097, 738031, 500, 0, 0)
	shows(t, "error 182 6", api.ErrNumber, 6)
}
