package script

import (
	"strings"

	"arrears/api"
	"arrears/money"
)

// field is what stands between two blanks of a line, and the place at which it begins.
type field struct {
	place int
	text  string
}

// fieldsOf are the fields of a line; there is at least one.
func fieldsOf(line string) []field {
	var fields []field
	place := 0
	for _, text := range strings.Split(line, blank) {
		fields = append(fields, field{place, text})
		place += len(text) + len(blank)
	}
	return fields
}

// readLine reads a line as an operation; in its error there is a fault.
func readLine(line []byte) (api.Op, error) {
	if len(line) > api.MaxLine {
		return api.Op{}, fault{api.ErrLong, 0}
	}
	fields := fieldsOf(string(line))
	word := fields[0].text
	kind, ok := kindOf(word)
	if !ok {
		return api.Op{}, fault{api.ErrCommand, 0}
	}
	if len(fields)-1 != len(commands[kind].slots) {
		return api.Op{}, inCommand{word, fault{api.ErrFields, len(line)}}
	}
	op, err := readFields(kind, fields[1:])
	if err != nil {
		return api.Op{}, inCommand{word, err}
	}
	return op, nil
}

// readFields reads the fields behind a command's word, of which there are as many as the command has.
func readFields(kind int, fields []field) (api.Op, error) {
	op := api.Op{Kind: kind}
	for i, s := range commands[kind].slots {
		if !lay(&op, s, fields[i].text) {
			return api.Op{}, fault{api.ErrNumber, fields[i].place}
		}
	}
	return op, nil
}

// lay lays a field into its slot, and tells whether it was written as the slot asks.
func lay(op *api.Op, s slot, text string) bool {
	ok := false
	switch s {
	case loanSlot:
		op.Loan, ok = readWhole[int](text)
	case rateSlot:
		op.Rate, ok = readWhole[int64](text)
	case countSlot:
		op.Count, ok = readWhole[int](text)
	case daysSlot:
		op.Days, ok = readWhole[int](text)
	case amountSlot:
		op.Amount, ok = money.Parse(text)
	case typeSlot:
		op.Days, ok = planOf(text)
	case lettersSlot:
		op.Text, ok = text, text != ""
	}
	return ok
}
