package script_test

import (
	"math"
	"slices"
	"strings"
	"testing"

	"arrears/api"
	"arrears/script"
)

// sample is a line and the operation that it is.
type sample struct {
	line string
	op   api.Op
}

// samples are lines of every command, with numbers at the edges of what may be written.
func samples() []sample {
	const most = 999999999999999999
	return []sample{
		{"open 1 0.01 0 1 level", api.Op{Kind: api.OpOpen, Loan: 1, Amount: 1, Count: 1, Days: api.PlanLevel}},
		{"open 2 3.04 5 6 equal", api.Op{Kind: api.OpOpen, Loan: 2, Amount: 304, Rate: 5, Count: 6, Days: api.PlanEqual}},
		{"open 0 0.00 -1 -2 balloon", api.Op{Kind: api.OpOpen, Rate: -1, Count: -2, Days: api.PlanBalloon}},
		{"open -999999999999999999 -92233720368547758.08 -999999999999999999 -999999999999999999 balloon", api.Op{Kind: api.OpOpen, Loan: -most, Amount: math.MinInt64, Rate: -most, Count: -most, Days: api.PlanBalloon}},
		{"pay 7 12.34", api.Op{Kind: api.OpPay, Loan: 7, Amount: 1234}},
		{"pay 999999999999999999 92233720368547758.07", api.Op{Kind: api.OpPay, Loan: most, Amount: math.MaxInt64}},
		{"return 7", api.Op{Kind: api.OpReturn, Loan: 7}},
		{"return -10", api.Op{Kind: api.OpReturn, Loan: -10}},
		{"refund 7 0.05", api.Op{Kind: api.OpRefund, Loan: 7, Amount: 5}},
		{"waive 7 -0.05", api.Op{Kind: api.OpWaive, Loan: 7, Amount: -5}},
		{"promise 7 50.00 14", api.Op{Kind: api.OpPromise, Loan: 7, Amount: 5000, Days: 14}},
		{"restructure 7 24 900", api.Op{Kind: api.OpRestructure, Loan: 7, Count: 24, Rate: 900}},
		{"day 31", api.Op{Kind: api.OpDay, Days: 31}},
		{"day -999999999999999999", api.Op{Kind: api.OpDay, Days: -most}},
		{"tick 3", api.Op{Kind: api.OpTick, Days: 3}},
		{"fate x3d", api.Op{Kind: api.OpFate, Text: "x3d"}},
		{"fate -", api.Op{Kind: api.OpFate, Text: "-"}},
		{"calm", api.Op{Kind: api.OpCalm}},
		{"crash 3 10", api.Op{Kind: api.OpCrash, Count: 3, Days: 10}},
		{"compact", api.Op{Kind: api.OpCompact}},
		{"restart", api.Op{Kind: api.OpRestart}},
		{"loan 999999", api.Op{Kind: api.OpLoan, Loan: 999999}},
		{"plan 100", api.Op{Kind: api.OpPlan, Loan: 100}},
		{"books", api.Op{Kind: api.OpBooks}},
		{"aging", api.Op{Kind: api.OpAging}},
		{"notices", api.Op{Kind: api.OpNotices}},
		{"timers", api.Op{Kind: api.OpTimers}},
		{"today", api.Op{Kind: api.OpToday}},
	}
}

// checkParse holds Parse of a line against the model.
func checkParse(t *testing.T, line []byte) api.Errno {
	t.Helper()
	op, why, place := script.Parse(line)
	if wantOp, wantWhy, wantPlace := modelParse(line); op != wantOp || why != wantWhy || place != wantPlace {
		t.Fatalf("18.2: Parse(%.110q) = %+v, %d, %d, want %+v, %d, %d", line, op, why, place, wantOp, wantWhy, wantPlace)
	}
	return why
}

// 18.2: every command.
func TestEachCommand(t *testing.T) {
	seen := map[int]bool{}
	for _, s := range samples() {
		reads(t, s.line, s.op)
		seen[s.op.Kind] = true
	}
	if len(seen) != api.OpToday {
		t.Errorf("too few of a kind: %d commands", len(seen))
	}
}

// 18.2: words that begin no command: near ones, parts, other letters, other bytes for a blank.
func TestNoCommands(t *testing.T) {
	for _, row := range rows {
		rest := strings.Repeat(" 1", len(row.names))
		for _, word := range []string{
			strings.ToUpper(row.word), strings.ToUpper(row.word[:1]) + row.word[1:], row.word[1:], row.word[:len(row.word)-1],
			row.word + "s", "s" + row.word, row.word + row.word, row.word + "\t", row.word + "\r", row.word + "\n", row.word + "\x00", row.word + "\u00a0",
			"\ufeff" + row.word, "\x00" + row.word, "#" + row.word, row.word[:1] + "\xff" + row.word[1:],
		} {
			refuses(t, word+rest, api.ErrCommand, 0)
		}
		refuses(t, " "+row.word+rest, api.ErrCommand, 0)
		refuses(t, row.word+strings.ReplaceAll(rest+" ", " ", "\t"), api.ErrCommand, 0)
	}
	for _, line := range []string{" ", "  ", "\n", "\r", "\x00", "1", "ok", "error 150", "level", "open\t1", strings.Repeat("x", 100), strings.Repeat(" ", 100)} {
		refuses(t, line, api.ErrCommand, 0)
	}
}

// 18.2: a field too few and too many, for every command; the place is the line's length.
func TestTooFewAndTooManyFields(t *testing.T) {
	for _, s := range samples() {
		fields := strings.Split(s.line, " ")
		for count := 1; count < len(fields); count++ {
			line := strings.Join(fields[:count], " ")
			refuses(t, line, api.ErrFields, len(line))
		}
		for _, more := range []string{" ", " 1", " x", "  ", " 1 2", " level"} {
			if line := s.line + more; len(line) <= api.MaxLine {
				refuses(t, line, api.ErrFields, len(line))
			}
		}
		for place := len(fields[0]); place < len(s.line) && len(s.line) < api.MaxLine; place++ {
			refuses(t, s.line[:place]+" "+s.line[place:], api.ErrFields, len(s.line)+1)
		}
	}
}

// 18.2: of several faults the first of the chapter's order is told.
func TestOrderOfFaults(t *testing.T) {
	wide := func(line string, length int) string { return line + strings.Repeat("x", length-len(line)) }
	for _, line := range []string{"", "pays 1 ", "pay ", "pay x ", "open 1 1.00 0 1 ", "today ", "fate ", "fate x ", strings.Repeat(" ", 90)} {
		refuses(t, wide(line, 101), api.ErrLong, 0)
		refuses(t, wide(line, 150), api.ErrLong, 0)
		checkParse(t, []byte(wide(line, 100)))
	}
	refuses(t, strings.Repeat(" ", 101), api.ErrLong, 0)
	refuses(t, strings.Repeat("x", 1<<22), api.ErrLong, 0)
	refuses(t, "today\n"+strings.Repeat("\n", 95), api.ErrLong, 0)
	refuses(t, "pays x", api.ErrCommand, 0)
	refuses(t, "pays x y z", api.ErrCommand, 0)
	refuses(t, "pay x", api.ErrFields, 5)
	refuses(t, "pay x y z", api.ErrFields, 9)
	refuses(t, "open x y z w", api.ErrFields, 12)
	refuses(t, "fate  ", api.ErrFields, 6)
	refuses(t, wide("today ", 100), api.ErrFields, 100)
	refuses(t, wide("day ", 100), api.ErrNumber, 4)
	refuses(t, wide("pay 1 ", 100), api.ErrNumber, 6)
	reads(t, wide("fate ", 100), api.Op{Kind: api.OpFate, Text: strings.Repeat("x", 95)})
}

// 18.2: of several fields that are not written as they should be, the place of the first is told, whichever they are.
func TestPlaceOfTheFirstFault(t *testing.T) {
	for _, s := range samples() {
		fields := strings.Split(s.line, " ")
		for set := 1; set < 1<<(len(fields)-1); set++ {
			for _, wrong := range []string{"", "x?", "00"} {
				changed, first := slices.Clone(fields), 0
				for i := len(fields) - 1; i > 0; i-- {
					if set>>(i-1)&1 == 1 {
						changed[i], first = wrong, i
					}
				}
				line := strings.Join(changed, " ")
				if s.op.Kind == api.OpFate && wrong != "" {
					reads(t, line, api.Op{Kind: api.OpFate, Text: wrong})
					continue
				}
				refuses(t, line, api.ErrNumber, len(strings.Join(changed[:first], " "))+1)
			}
		}
	}
}

// noWholes are texts that are no whole numbers.
func noWholes() []string {
	return []string{
		"", "-", "--1", "-+1", "+1", "+0", "-0", "00", "-00", "01", "-01", "000000000000000001", "1-", "1-1", "1.", ".1", "1.0", "1.00", "1,000", "1_000", "1e3", "0x1", "0b1", "0o7", "x", "1x", "x1", "a",
		"1000000000000000000", "-1000000000000000000", "1234567890123456789", "9223372036854775807", "-9223372036854775808", "9999999999999999999", "18446744073709551616", "18446744073709551617", strings.Repeat("1", 90), strings.Repeat("0", 90),
		"1\r", "1\n", "\n1", "1\t", "\t1", "1\x00", "\x001", "1\xff", "\xff", "\xc0\xb1", "\u0661", "1\u0662", "\u00b2", "\uff11", "\u22121", "\u00bd", "level", "nil", "inf", "/", ":", "1/", "1:",
	}
}

// wholesWritten are whole numbers as they are written.
func wholesWritten() map[string]int {
	list := map[string]int{"0": 0, "999999999999999999": 999999999999999999, "-999999999999999999": -999999999999999999, "123456789012345678": 123456789012345678}
	text, number := "1", 1
	for range 18 {
		list[text], list["-"+text] = number, -number
		text, number = text+"0", number*10
	}
	for digit := 1; digit <= 9; digit++ {
		list[string(rune('0'+digit))], list["-"+string(rune('0'+digit))] = digit, -digit
	}
	return list
}

// 18.2: whole numbers, in each of the fields that are such.
func TestWholeNumbers(t *testing.T) {
	for text, number := range wholesWritten() {
		reads(t, "day "+text, api.Op{Kind: api.OpDay, Days: number})
		reads(t, "tick "+text, api.Op{Kind: api.OpTick, Days: number})
		reads(t, "plan "+text, api.Op{Kind: api.OpPlan, Loan: number})
		reads(t, "crash "+text+" "+text, api.Op{Kind: api.OpCrash, Count: number, Days: number})
		reads(t, "open "+text+" 0.00 "+text+" "+text+" equal", api.Op{Kind: api.OpOpen, Loan: number, Rate: int64(number), Count: number, Days: 1})
		reads(t, "promise "+text+" 0.00 "+text, api.Op{Kind: api.OpPromise, Loan: number, Days: number})
		reads(t, "restructure "+text+" "+text+" "+text, api.Op{Kind: api.OpRestructure, Loan: number, Count: number, Rate: int64(number)})
	}
	for _, s := range samples() {
		fields := strings.Split(s.line, " ")
		for i, name := range rows[s.op.Kind-1].names {
			if slices.Contains([]string{"AMOUNT", "PRINCIPAL", "TYPE", "LETTERS"}, name) {
				continue
			}
			for _, text := range noWholes() {
				changed := slices.Clone(fields)
				changed[i+1] = text
				if line := strings.Join(changed, " "); len(line) <= api.MaxLine {
					refuses(t, line, api.ErrNumber, len(strings.Join(fields[:i+1], " "))+1)
				}
			}
		}
	}
}

// 18.2: amounts are as money writes them, and never whole numbers.
func TestAmounts(t *testing.T) {
	for text, cents := range map[string]int64{"0.00": 0, "0.01": 1, "-0.01": -1, "0.10": 10, "1.00": 100, "10.05": 1005, "-120.50": -12050, "92233720368547758.07": math.MaxInt64, "-92233720368547758.08": math.MinInt64} {
		for word, kind := range map[string]int{"pay": api.OpPay, "refund": api.OpRefund, "waive": api.OpWaive} {
			reads(t, word+" 1 "+text, api.Op{Kind: kind, Loan: 1, Amount: cents})
		}
		reads(t, "promise 1 "+text+" 2", api.Op{Kind: api.OpPromise, Loan: 1, Amount: cents, Days: 2})
		reads(t, "open 1 "+text+" 2 3 level", api.Op{Kind: api.OpOpen, Loan: 1, Amount: cents, Rate: 2, Count: 3})
	}
	for _, text := range []string{"", "0", "1", "-1", "12", "1.", "1.0", "1.000", ".50", "-.50", "-0.00", "+1.00", "01.00", "-01.00", "00.00", "1,00", "1.00\r", "1.00\n", "\t1.00", "x", "1.0x", "1..00", "--1.00", "92233720368547758.08", "-92233720368547758.09", "100000000000000000.00", "\u0661.00", "1.\xff0"} {
		refuses(t, "pay 1 "+text, api.ErrNumber, 6)
		refuses(t, "refund 22 "+text, api.ErrNumber, 10)
		refuses(t, "waive 333 "+text, api.ErrNumber, 10)
		refuses(t, "promise 1 "+text+" 2", api.ErrNumber, 10)
		refuses(t, "open 1 "+text+" 2 3 level", api.ErrNumber, 7)
	}
}

// 18.2: the words of plans, to the letter.
func TestTypes(t *testing.T) {
	for text, plan := range map[string]int{"level": api.PlanLevel, "equal": api.PlanEqual, "balloon": api.PlanBalloon} {
		reads(t, "open 1 2.00 3 4 "+text, api.Op{Kind: api.OpOpen, Loan: 1, Amount: 200, Rate: 3, Count: 4, Days: plan})
	}
	for _, text := range []string{"", "0", "1", "2", "Level", "EQUAL", "ballon", "balloons", "lev", "levels", "level\r", "level\n", "\tequal", "level,equal", "open", "x", "\xff"} {
		refuses(t, "open 1 2.00 3 4 "+text, api.ErrNumber, 16)
	}
}

// 18.2: a fate's letters are any bytes but blanks: also line ends, and bytes that are no letters at all.
func TestLetters(t *testing.T) {
	for b := range 256 {
		for _, text := range []string{string([]byte{byte(b)}), "a" + string([]byte{byte(b)}), string([]byte{byte(b)}) + "a", "x" + string([]byte{byte(b)}) + "9"} {
			switch {
			case b != ' ':
				reads(t, "fate "+text, api.Op{Kind: api.OpFate, Text: text})
			default:
				refuses(t, "fate "+text, api.ErrFields, 5+len(text))
			}
		}
	}
	refuses(t, "fate ", api.ErrNumber, 5)
	refuses(t, "fate", api.ErrFields, 4)
	reads(t, "fate #", api.Op{Kind: api.OpFate, Text: "#"})
	reads(t, "fate \u00e9\u4e16\xf0\x9f", api.Op{Kind: api.OpFate, Text: "\u00e9\u4e16\xf0\x9f"})
	reads(t, "fate today", api.Op{Kind: api.OpFate, Text: "today"})
	for length := 1; length <= 95; length++ {
		text := strings.Repeat("\xff", length)
		reads(t, "fate "+text, api.Op{Kind: api.OpFate, Text: text})
	}
	for length := 96; length <= 300; length++ {
		refuses(t, "fate "+strings.Repeat("d", length), api.ErrLong, 0)
	}
}
