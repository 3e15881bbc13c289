package lockbox

import "strconv"

// checkDigit is the digit that goes behind digits by the rule of modulus ten; false, if one of them is no digit.
func checkDigit(digits string) (int, bool) {
	sum := 0
	for i := range len(digits) {
		digit, ok := digitOf(digits[len(digits)-1-i])
		if !ok {
			return 0, false
		}
		if i%2 == 0 {
			digit = doubled(digit)
		}
		sum += digit
	}
	return (10 - sum%10) % 10, true
}

// doubled is a digit's weight in a doubled place.
func doubled(digit int) int {
	if digit > 4 {
		return 2*digit - 9
	}
	return 2 * digit
}

// digitOf is the value of a decimal digit.
func digitOf(b byte) (int, bool) {
	if b < '0' || b > '9' {
		return 0, false
	}
	return int(b - '0'), true
}

// readDigits reads a field, which has fewer digits than would leave an int64.
func readDigits(field []byte) (int64, bool) {
	number := int64(0)
	for _, b := range field {
		digit, ok := digitOf(b)
		if !ok {
			return 0, false
		}
		number = 10*number + int64(digit)
	}
	return number, true
}

// appendDigits lays a number behind a file's bytes, as a field of so many digits.
func appendDigits(file []byte, number int64, width int) []byte {
	text := strconv.FormatInt(number, 10)
	for range width - len(text) {
		file = append(file, '0')
	}
	return append(file, text...)
}
