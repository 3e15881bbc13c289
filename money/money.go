// Package money: checked cents (layer 1): see doc/01-money.md.
package money

import (
	"math/bits"
	"strconv"
)

// lowest is how far an int64 goes below 0; above 0 it stays below this.
const lowest = 1 << 63

// whole is the number of basis points that make the whole.
const whole = 10000

// longest is the length of the longest text that Format tells.
const longest = len("-92233720368547758.08")

// Integer is what Sum and Clamp work on.
type Integer interface {
	~int | ~int64
}

// Add is a + b.
func Add(a, b int64) (int64, bool) {
	sum := a + b
	if (sum < a) != (b < 0) {
		return 0, false
	}
	return sum, true
}

// Sub is a - b.
func Sub(a, b int64) (int64, bool) {
	difference := a - b
	if (difference > a) != (b < 0) {
		return 0, false
	}
	return difference, true
}

// Mul is a * b.
func Mul(a, b int64) (int64, bool) {
	high, low := bits.Mul64(size(a), size(b))
	if high != 0 {
		return 0, false
	}
	return signed(low, (a < 0) != (b < 0))
}

// MulDiv is a * b / c to the nearest whole number, a half to the even one.
func MulDiv(a, b, c int64) (int64, bool) {
	quotient, rest, ok := divide(a, b, c)
	if !ok {
		return 0, false
	}
	// Twice the rest could leave 64 bits: the rest is held against what it lacks.
	lacking := size(c) - rest
	if rest > lacking || rest == lacking && quotient%2 == 1 {
		quotient++
	}
	return signed(quotient, (a < 0) != (b < 0) != (c < 0))
}

// MulDivFloor is a * b / c rounded down, and the rest.
func MulDivFloor(a, b, c int64) (int64, int64, bool) {
	if c <= 0 {
		return 0, 0, false
	}
	quotient, rest, ok := divide(a, b, c)
	if !ok {
		return 0, 0, false
	}
	below := (a < 0) != (b < 0)
	if below && rest > 0 {
		quotient++
		rest = size(c) - rest
	}
	q, ok := signed(quotient, below)
	if !ok {
		return 0, 0, false
	}
	return q, int64(rest), true
}

// Bps is so many basis points of an amount.
func Bps(amount, bp int64) (int64, bool) {
	return MulDiv(amount, bp, whole)
}

// Sum adds a list up.
func Sum[T Integer](list []T) (T, bool) {
	// 128 bits in two's complement: a sum on the way may leave int64 and come back.
	var high, low, carry uint64
	for _, x := range list {
		n := int64(x)
		low, carry = bits.Add64(low, uint64(n), 0)
		high, _ = bits.Add64(high, uint64(n>>63), carry)
	}
	if high != uint64(int64(low)>>63) {
		return 0, false
	}
	return T(int64(low)), true
}

// Clamp is x, or the bound that it is beyond.
func Clamp[T Integer](x, low, high T) T {
	if x < low {
		return low
	}
	if x > high {
		return high
	}
	return x
}

// Format tells cents as a text.
func Format(cents int64) string {
	amount := size(cents)
	units := strconv.FormatUint(amount/100, 10)
	// The 100 that is added keeps the leading 0 of the cents, and is cut off.
	text := units + "." + strconv.FormatUint(100+amount%100, 10)[1:]
	if cents < 0 {
		return "-" + text
	}
	return text
}

// Parse reads what Format tells.
func Parse(text string) (int64, bool) {
	point := len(text) - len(".00")
	if point < 1 || len(text) > longest {
		return 0, false
	}
	cents, err := strconv.ParseInt(text[:point]+text[point+1:], 10, 64)
	// ParseInt takes more than Format tells: a plus, leading zeros, any byte for the point.
	if err != nil || Format(cents) != text {
		return 0, false
	}
	return cents, true
}

// size is x without its sign; that of the least int64 has no int64 of its own.
func size(x int64) uint64 {
	if x < 0 {
		return -uint64(x)
	}
	return uint64(x)
}

// signed lays the sign to a size, if the number fits.
func signed(size uint64, below bool) (int64, bool) {
	if below && size <= lowest {
		return int64(-size), true
	}
	if !below && size < lowest {
		return int64(size), true
	}
	return 0, false
}

// divide is a * b / c without signs, rounded down, and its rest. Refused if c is 0, or if the quotient fits with neither sign.
func divide(a, b, c int64) (uint64, uint64, bool) {
	high, low := bits.Mul64(size(a), size(b))
	if high >= size(c) {
		return 0, 0, false
	}
	quotient, rest := bits.Div64(high, low, size(c))
	// Refused here, so that a caller's rounding away from 0 can't wrap.
	if quotient > lowest {
		return 0, 0, false
	}
	return quotient, rest, true
}
