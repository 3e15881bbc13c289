package script_test

import (
	"math"
	"strconv"
	"strings"
	"testing"

	"arrears/api"
	"arrears/script"
)

// 18.4: errors of any number, with numbers and without.
func TestShowErrors(t *testing.T) {
	for why := api.Errno(1); why <= 300; why++ {
		shows(t, "error "+strconv.Itoa(int(why)), why)
		shows(t, "error "+strconv.Itoa(int(why))+" 7 -7", why, 7, -7)
	}
	shows(t, "error -1", -1)
	shows(t, "error -3 0", -3, 0)
	shows(t, "error 9223372036854775807", math.MaxInt)
	shows(t, "error -9223372036854775808 -1", math.MinInt, -1)
}

// 18.4: numbers of any size.
func TestShowNumbers(t *testing.T) {
	shows(t, "ok 0", api.OK, 0)
	shows(t, "ok 0 0 0", api.OK, 0, 0, 0)
	shows(t, "ok -1", api.OK, -1)
	shows(t, "ok 9223372036854775807 -9223372036854775808", api.OK, math.MaxInt64, math.MinInt64)
	shows(t, "ok 999999999999999999 1000000000000000000 -1000000000000000000", api.OK, 999999999999999999, 1000000000000000000, -1000000000000000000)
	for text, number := range wholesWritten() {
		shows(t, "ok "+text, api.OK, int64(number))
		shows(t, "error 3 "+text+" "+text, api.ErrRange, int64(number), int64(number))
	}
}

// 18.4: replies of many numbers.
func TestShowLong(t *testing.T) {
	const count = 100000
	numbers, want := []int64{}, []string{"ok"}
	for i := range count {
		number := int64(i-count/2) * 92233720368547
		numbers, want = append(numbers, number), append(want, strconv.FormatInt(number, 10))
	}
	if text := script.Show(api.Reply{Nums: numbers}); text != strings.Join(want, " ") {
		t.Errorf("18.4: Show of %d numbers: %.80q", count, text)
	}
}
