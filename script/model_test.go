package script_test

import (
	"bytes"
	"fmt"
	"math/big"
	"reflect"
	"regexp"
	"strings"

	"arrears/api"
)

// table is the chapter's: a line, and where its fields go.
const table = `open LOAN PRINCIPAL RATE COUNT TYPE | Loan Amount Rate Count Days
pay LOAN AMOUNT | Loan Amount
return LOAN | Loan
refund LOAN AMOUNT | Loan Amount
waive LOAN AMOUNT | Loan Amount
promise LOAN AMOUNT DAYS | Loan Amount Days
restructure LOAN COUNT RATE | Loan Count Rate
day DAYS | Days
tick TICKS | Days
fate LETTERS | Text
calm |
crash AFTER KEEP | Count Days
compact |
restart |
loan LOAN | Loan
plan LOAN | Loan
books |
aging |
notices |
timers |
today |`

// shape is a row of the table.
type shape struct {
	kind  int
	word  string
	names []string // of the line's fields
	into  []string // the operation's fields
}

// shapes are the table's rows; the row of kind k stands at k - 1.
func shapes() []shape {
	var list []shape
	for i, row := range strings.Split(table, "\n") {
		line, into, _ := strings.Cut(row, "|")
		names := strings.Fields(line)
		list = append(list, shape{kind: i + 1, word: names[0], names: names[1:], into: strings.Fields(into)})
	}
	return list
}

var (
	rows    = shapes()
	wholes  = regexp.MustCompile(`^(0|-?[1-9][0-9]{0,17})$`)
	amounts = regexp.MustCompile(`^-?(0|[1-9][0-9]*)\.[0-9][0-9]$`)
	types   = map[string]int64{"level": 0, "equal": 1, "balloon": 2}
)

// modelField reads a field of this name: a number, or a text, or neither.
func modelField(name, text string) (number int64, letters string, ok bool) {
	switch name {
	case "LETTERS":
		return 0, text, text != ""
	case "TYPE":
		number, ok = types[text]
		return number, "", ok
	case "AMOUNT", "PRINCIPAL":
		if !amounts.MatchString(text) || text == "-0.00" {
			return 0, "", false
		}
		n, _ := new(big.Int).SetString(strings.Replace(text, ".", "", 1), 10)
		if !n.IsInt64() {
			return 0, "", false
		}
		return n.Int64(), "", true
	}
	if !wholes.MatchString(text) {
		return 0, "", false
	}
	n, _ := new(big.Int).SetString(text, 10)
	return n.Int64(), "", true
}

// modelParse is Parse by the chapter's words: byte by byte, with the library's expressions and numbers without an end.
func modelParse(line []byte) (api.Op, api.Errno, int) {
	if len(line) > 100 {
		return api.Op{}, api.ErrLong, 0
	}
	fields, places := [][]byte{nil}, []int{0}
	for i, b := range line {
		if b == 32 {
			fields, places = append(fields, nil), append(places, i+1)
			continue
		}
		fields[len(fields)-1] = append(fields[len(fields)-1], b)
	}
	for _, row := range rows {
		if !bytes.Equal(fields[0], []byte(row.word)) {
			continue
		}
		if len(fields) != 1+len(row.names) {
			return api.Op{}, api.ErrFields, len(line)
		}
		op := api.Op{Kind: row.kind}
		for i, name := range row.names {
			number, letters, ok := modelField(name, string(fields[i+1]))
			if !ok {
				return api.Op{}, api.ErrNumber, places[i+1]
			}
			into := reflect.ValueOf(&op).Elem().FieldByName(row.into[i])
			if into.Kind() == reflect.String {
				into.SetString(letters)
			} else {
				into.SetInt(number)
			}
		}
		return op, api.OK, 0
	}
	return api.Op{}, api.ErrCommand, 0
}

// modelWord is the field of this name that says a number, whether or not Parse would read it.
func modelWord(name string, number int64) string {
	switch name {
	case "AMOUNT", "PRINCIPAL":
		return new(big.Rat).SetFrac(big.NewInt(number), big.NewInt(100)).FloatString(2)
	case "TYPE":
		for word, plan := range types {
			if plan == number {
				return word
			}
		}
		return "?"
	}
	return fmt.Sprint(number)
}

// modelFormat writes the line down and asks the model's Parse whether it is this operation's.
func modelFormat(op api.Op) (string, bool) {
	if op.Kind < 1 || op.Kind > len(rows) {
		return "", false
	}
	row := rows[op.Kind-1]
	line, want := row.word, api.Op{Kind: op.Kind}
	for i, name := range row.names {
		from, to := reflect.ValueOf(op).FieldByName(row.into[i]), reflect.ValueOf(&want).Elem().FieldByName(row.into[i])
		to.Set(from)
		if from.Kind() == reflect.String {
			line += " " + from.String()
		} else {
			line += " " + modelWord(name, from.Int())
		}
	}
	if got, why, _ := modelParse([]byte(line)); why != api.OK || got != want || strings.Contains(line, "\n") {
		return "", false
	}
	return line, true
}

// used is an operation with the fields that its kind has no place for 0 and empty.
func used(op api.Op) api.Op {
	want := api.Op{Kind: op.Kind}
	for _, name := range rows[op.Kind-1].into {
		reflect.ValueOf(&want).Elem().FieldByName(name).Set(reflect.ValueOf(op).FieldByName(name))
	}
	return want
}

// modelLines cuts a text byte by byte.
func modelLines(text string) []string {
	var list []string
	line := ""
	for _, b := range []byte(text + "\n") {
		if b != 10 {
			line += string([]byte{b})
			continue
		}
		if len(line) > 0 && line[0] != '#' {
			list = append(list, line)
		}
		line = ""
	}
	return list
}
