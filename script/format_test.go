package script_test

import (
	"math"
	"reflect"
	"strings"
	"testing"

	"arrears/api"
	"arrears/script"
)

// checkFormat holds Format of an operation against the model.
func checkFormat(t *testing.T, op api.Op) (string, bool) {
	t.Helper()
	line, ok := script.Format(op)
	if wantLine, wantOK := modelFormat(op); line != wantLine || ok != wantOK {
		t.Fatalf("18.3: Format(%+v) = %.110q, %v, want %.110q, %v", op, line, ok, wantLine, wantOK)
	}
	return line, ok
}

// 18.3: every command.
func TestTellEachCommand(t *testing.T) {
	for _, s := range samples() {
		tells(t, s.op, s.line)
	}
}

// 18.3: no kind but 1 to 21 has a line, whatever the other fields are.
func TestKindsWithoutALine(t *testing.T) {
	for _, kind := range []int{0, 22, 23, 100, 255, 256, 257, -1, -2, -21, 1 << 32, 1<<32 + 1, math.MaxInt, math.MinInt} {
		untold(t, api.Op{Kind: kind})
		untold(t, api.Op{Kind: kind, Loan: 1, Amount: 2, Rate: 3, Count: 4, Days: 1, Text: "x"})
	}
	for kind := api.OpOpen; kind <= api.OpToday; kind++ {
		if _, ok := script.Format(api.Op{Kind: kind, Text: "x"}); !ok {
			t.Errorf("18.3: kind %d has no line", kind)
		}
	}
}

// 18.3: the fields that a kind has no place for count for nothing, those that no line could say neither.
func TestFieldsWithoutAPlace(t *testing.T) {
	for _, other := range []api.Op{
		{Loan: 1, Amount: 2, Rate: 3, Count: 4, Days: 5, Text: "x"},
		{Loan: math.MinInt, Amount: math.MinInt64, Rate: math.MinInt64, Count: math.MinInt, Days: math.MinInt, Text: "a b\n"},
		{Loan: math.MaxInt, Amount: math.MaxInt64, Rate: math.MaxInt64, Count: math.MaxInt, Days: math.MaxInt, Text: strings.Repeat("x", 1000)},
	} {
		for _, s := range samples() {
			op := other
			op.Kind = s.op.Kind
			for _, name := range rows[op.Kind-1].into {
				reflect.ValueOf(&op).Elem().FieldByName(name).Set(reflect.ValueOf(s.op).FieldByName(name))
			}
			tells(t, op, s.line)
		}
	}
}

// 18.3: a whole number has at most 18 digits, in each of the fields that are such.
func TestWholesWithTooManyDigits(t *testing.T) {
	const most = 999999999999999999
	for _, number := range []int{most + 1, -most - 1, 1 << 62, -1 << 62, math.MaxInt, math.MinInt, math.MinInt + 1} {
		for _, row := range rows {
			for _, name := range row.into {
				op := api.Op{Kind: row.kind, Text: "x"}
				switch name {
				case "Loan":
					op.Loan = number
				case "Rate":
					op.Rate = int64(number)
				case "Count":
					op.Count = number
				case "Days":
					op.Days = number
				default:
					continue
				}
				untold(t, op)
			}
		}
	}
	for _, number := range []int{most, -most} {
		text := map[bool]string{false: "999999999999999999", true: "-999999999999999999"}[number < 0]
		tells(t, api.Op{Kind: api.OpDay, Days: number}, "day "+text)
		tells(t, api.Op{Kind: api.OpLoan, Loan: number}, "loan "+text)
		tells(t, api.Op{Kind: api.OpCrash, Count: number, Days: number}, "crash "+text+" "+text)
		tells(t, api.Op{Kind: api.OpRestructure, Loan: number, Count: number, Rate: int64(number)}, "restructure "+text+" "+text+" "+text)
	}
	for text, number := range wholesWritten() {
		tells(t, api.Op{Kind: api.OpTick, Days: number}, "tick "+text)
	}
}

// 18.3: an amount may be any int64.
func TestTellAmounts(t *testing.T) {
	for text, cents := range map[string]int64{"0.00": 0, "0.09": 9, "-0.10": -10, "-0.99": -99, "1.00": 100, "92233720368547758.07": math.MaxInt64, "-92233720368547758.08": math.MinInt64} {
		tells(t, api.Op{Kind: api.OpPay, Loan: -3, Amount: cents}, "pay -3 "+text)
		tells(t, api.Op{Kind: api.OpRefund, Amount: cents}, "refund 0 "+text)
		tells(t, api.Op{Kind: api.OpWaive, Amount: cents}, "waive 0 "+text)
		tells(t, api.Op{Kind: api.OpPromise, Amount: cents, Days: 4}, "promise 0 "+text+" 4")
		tells(t, api.Op{Kind: api.OpOpen, Amount: cents, Days: api.PlanBalloon}, "open 0 "+text+" 0 0 balloon")
	}
}

// 18.3: of an open the Days are a kind of plan.
func TestTellTypes(t *testing.T) {
	for _, days := range []int{-1, 3, 4, 255, 256, 1 << 32, math.MaxInt, math.MinInt} {
		untold(t, api.Op{Kind: api.OpOpen, Loan: 1, Amount: 1, Count: 1, Days: days})
	}
	for days, word := range []string{"level", "equal", "balloon"} {
		tells(t, api.Op{Kind: api.OpOpen, Loan: 1, Amount: 1, Count: 1, Days: days}, "open 1 0.01 0 1 "+word)
	}
}

// 18.3: a fate's Text has a line if it has bytes, at most 95, and none of them is a blank or a line end.
func TestTellLetters(t *testing.T) {
	untold(t, api.Op{Kind: api.OpFate})
	for b := range 256 {
		for _, text := range []string{string([]byte{byte(b)}), "a" + string([]byte{byte(b)}), string([]byte{byte(b)}) + "a", "x" + string([]byte{byte(b)}) + "9"} {
			if b == ' ' || b == '\n' {
				untold(t, api.Op{Kind: api.OpFate, Text: text})
			} else {
				tells(t, api.Op{Kind: api.OpFate, Text: text}, "fate "+text)
			}
		}
	}
	for length := 1; length <= 95; length++ {
		text := strings.Repeat("\xc3", length)
		tells(t, api.Op{Kind: api.OpFate, Text: text}, "fate "+text)
	}
	for _, length := range []int{96, 97, 100, 101, 1000, 1 << 20} {
		untold(t, api.Op{Kind: api.OpFate, Text: strings.Repeat("x", length)})
	}
	// A line that Parse reads, but that has a line end.
	reads(t, "fate a\nb", api.Op{Kind: api.OpFate, Text: "a\nb"})
	untold(t, api.Op{Kind: api.OpFate, Text: "a\nb"})
}
