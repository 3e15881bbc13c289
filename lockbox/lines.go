package lockbox

import "bytes"

const lineEnd = "\n"

// The kinds of lines.
const (
	header = iota
	detail
	trailer
)

// form is how the lines of a kind are written: a letter, and fields of so many digits.
type form struct {
	letter string
	widths []int
}

// forms stand each at its kind's number. Reading and telling both ask this table, so that they cannot differ.
var forms = [...]form{
	header:  {"H", []int{4, 2, 2, 6}},
	detail:  {"D", []int{4, 6, 1, 12}},
	trailer: {"T", []int{4, 16, 10}},
}

// begins tells whether the bytes begin with the letter of a kind.
func begins(rest []byte, kind int) bool {
	return bytes.HasPrefix(rest, []byte(forms[kind].letter))
}

// readLine reads what bytes begin with as a line of a kind: the numbers in its fields, and what stands behind the line. False, if no such line stands there.
func readLine(rest []byte, kind int) ([]int64, []byte, bool) {
	if !begins(rest, kind) {
		return nil, nil, false
	}
	rest = rest[len(forms[kind].letter):]
	var numbers []int64
	for _, width := range forms[kind].widths {
		if len(rest) < width {
			return nil, nil, false
		}
		number, ok := readDigits(rest[:width])
		if !ok {
			return nil, nil, false
		}
		numbers, rest = append(numbers, number), rest[width:]
	}
	// No digit is a line end: the line has its number of bytes if, and only if, it ends here.
	behind, ok := bytes.CutPrefix(rest, []byte(lineEnd))
	if !ok {
		return nil, nil, false
	}
	return numbers, behind, true
}

// appendLine lays a line of a kind behind a file's bytes; there is a number for each field, and it fits.
func appendLine(file []byte, kind int, numbers ...int64) []byte {
	file = append(file, forms[kind].letter...)
	for i, width := range forms[kind].widths {
		file = appendDigits(file, numbers[i], width)
	}
	return append(file, lineEnd...)
}
