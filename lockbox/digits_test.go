package lockbox_test

import (
	"fmt"
	"math/rand"
	"strings"
	"testing"

	"arrears/api"
	"arrears/lockbox"
)

// modelDigit is the check digit of a number, taken apart by division.
func modelDigit(number int) int {
	sum, twice := 0, true
	for ; number > 0; number /= 10 {
		d := number % 10
		if twice {
			d *= 2
			// Of a number from 10 to 18, 9 less is the sum of its digits.
			d = d/10 + d%10
		}
		sum += d
		twice = !twice
	}
	for d := range 10 {
		if (sum+d)%10 == 0 {
			return d
		}
	}
	panic("no digit brings a sum to a multiple of ten")
}

// 20.2, 20.3: every number that has a check digit, and that digit behind it, with leading zeros and without; the nine others are not valid there.
func TestEveryCheckDigit(t *testing.T) {
	for number := range api.MaxLoan + 1 {
		want := modelDigit(number)
		if got, ok := lockbox.CheckDigit(number); got != want || !ok {
			t.Fatalf("20.2: CheckDigit(%d) = %d, %v, want %d, true", number, got, ok, want)
		}
		if number%17 != 0 {
			continue
		}
		for _, form := range []string{"%d%d", "%06d%d", "%09d%d"} {
			for d := range 10 {
				if digits := fmt.Sprintf(form, number, d); lockbox.Valid(digits) != (d == want) {
					t.Fatalf("20.3: Valid(%q) = %v", digits, d != want)
				}
			}
		}
	}
}

// 20.2: what has no check digit.
func TestNoCheckDigit(t *testing.T) {
	for _, number := range []int{-1, -7, -999999, least, least + 1, api.MaxLoan + 1, 10000000, 1 << 32, 1<<32 + 7, most} {
		digit(t, number, 0, false)
	}
	digit(t, api.MaxLoan, 6, true)
}

// modelValid tells whether digits end with their check digit, with the sum over all of them.
func modelValid(digits string) bool {
	sum := 0
	for i := range len(digits) {
		if !strings.Contains("0123456789", digits[i:i+1]) {
			return false
		}
		d := int(digits[i]) - '0'
		if (len(digits)-i)%2 == 0 {
			d = []int{0, 2, 4, 6, 8, 1, 3, 5, 7, 9}[d]
		}
		sum += d
	}
	return len(digits) > 1 && sum%10 == 0
}

// 20.3: every text of up to two bytes, and every one of three bytes with a byte that is no digit in any place.
func TestValidOfShortTexts(t *testing.T) {
	valid(t, "", false)
	for a := range 256 {
		valid(t, string([]byte{byte(a)}), false)
		for b := range 256 {
			two := string([]byte{byte(a), byte(b)})
			valid(t, two, modelValid(two))
			for place := range 3 {
				three := two[:min(place, 2)] + "0" + two[min(place, 2):]
				valid(t, three, modelValid(three))
			}
		}
	}
	// Digits of other scripts, and signs, are none.
	for _, digits := range []string{"٧٥", "７5", "+75", "-75", "75\n", "75\x00", " 75", "7.5", "0x75"} {
		valid(t, digits, false)
	}
}

// drawn are digits by lot, of which the last is the check digit.
func drawn(random *rand.Rand, length int) string {
	digits := make([]byte, length)
	for i := range digits {
		digits[i] = byte('0' + random.Intn(10))
	}
	for d := range 10 {
		digits[length-1] = byte('0' + d)
		if modelValid(string(digits)) {
			return string(digits)
		}
	}
	panic("digits without a check digit")
}

// 20.3: digits of any length, a check digit that is right or wrong, and bytes that are no digits among them.
func TestValidOfAnyLength(t *testing.T) {
	random := rand.New(rand.NewSource(203))
	for _, length := range []int{2, 3, 7, 17, 19, 20, 21, 64, 65, 999, 1000, 100001} {
		for range 20 {
			right := drawn(random, length)
			valid(t, right, true)
			place := random.Intn(length)
			for _, other := range []string{"", " ", "/", ":", "a", "\xff", "0", "5"} {
				changed := right[:place] + other + right[place+1:]
				valid(t, changed, modelValid(changed))
			}
		}
	}
	long := strings.Repeat("0", 1<<22)
	valid(t, long, true)
	valid(t, long+"75", true)
	valid(t, long+"74", false)
}

// 20.9: one digit that is changed is noticed, and two neighbours that change places, but for the same ones and 0 and 9.
func TestChangedDigitsAreNoticed(t *testing.T) {
	random := rand.New(rand.NewSource(209))
	for range 3000 {
		digits := []byte(drawn(random, 2+random.Intn(12)))
		for i, was := range digits {
			for d := byte('0'); d <= '9'; d++ {
				digits[i] = d
				valid(t, string(digits), d == was)
			}
			digits[i] = was
			if i == 0 {
				continue
			}
			a, b := digits[i-1], was
			digits[i-1], digits[i] = b, a
			valid(t, string(digits), a == b || a+b == '0'+'9' && (a == '0' || b == '0'))
			digits[i-1], digits[i] = a, b
		}
	}
}
