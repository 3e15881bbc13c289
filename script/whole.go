package script

import (
	"strconv"
	"strings"
)

// A whole number has at most so many digits; greatest has them all.
const (
	maxDigits = 18
	greatest  = 999_999_999_999_999_999
)

// readWhole reads a whole number, written in the one way there is.
func readWhole[T int | int64](text string) (T, bool) {
	digits, below := strings.CutPrefix(text, "-")
	if digits == "" || len(digits) > maxDigits {
		return 0, false
	}
	if digits[0] == '0' && text != "0" {
		return 0, false
	}
	var number T
	for _, r := range digits {
		digit, ok := digitOf(r)
		if !ok {
			return 0, false
		}
		number = 10*number + T(digit)
	}
	if below {
		return -number, true
	}
	return number, true
}

// digitOf is the value of a decimal digit; those of other scripts are none.
func digitOf(r rune) (int, bool) {
	if r < '0' || r > '9' {
		return 0, false
	}
	return int(r - '0'), true
}

// tellWhole tells a number as a whole number, if it has not too many digits for one.
func tellWhole[T int | int64](number T) (string, bool) {
	if number < -greatest || number > greatest {
		return "", false
	}
	return strconv.FormatInt(int64(number), 10), true
}
