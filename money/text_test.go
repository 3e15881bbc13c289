package money_test

import (
	"math/big"
	"strings"
	"testing"

	"arrears/money"
)

// 1.9, 1.10: amounts and their texts, both ways.
func TestTexts(t *testing.T) {
	for _, c := range []struct {
		cents int64
		text  string
	}{
		{0, "0.00"}, {1, "0.01"}, {-1, "-0.01"}, {-5, "-0.05"}, {9, "0.09"}, {10, "0.10"}, {99, "0.99"}, {-99, "-0.99"},
		{100, "1.00"}, {-100, "-1.00"}, {101, "1.01"}, {999, "9.99"}, {1000, "10.00"}, {1234, "12.34"}, {-120050, "-1200.50"},
		{top, "92233720368547758.07"}, {top - 7, "92233720368547758.00"}, {bottom, "-92233720368547758.08"}, {bottom + 1, "-92233720368547758.07"},
	} {
		if got := money.Format(c.cents); got != c.text {
			t.Errorf("1.9: Format(%d) = %q, want %q", c.cents, got, c.text)
		}
		if got, ok := money.Parse(c.text); got != c.cents || !ok {
			t.Errorf("1.10: Parse(%q) = %d, %v, want %d", c.text, got, ok, c.cents)
		}
	}
}

// 1.9, 1.10: what Format tells is at most 21 bytes, tells the amount by numbers without bounds, and is read back.
func TestTextsOfManyAmounts(t *testing.T) {
	for _, cents := range append(edges(), spread(5000)...) {
		text := money.Format(cents)
		exact := new(big.Rat).SetFrac(big.NewInt(cents), big.NewInt(100)).FloatString(2)
		if text != exact || len(text) > 21 {
			t.Errorf("1.9: Format(%d) = %q, want %q, at most 21 bytes", cents, text, exact)
		}
		if got, ok := money.Parse(text); got != cents || !ok {
			t.Errorf("1.10: Parse(%q) = %d, %v, want %d", text, got, ok, cents)
		}
	}
}

// noAmounts are texts that Format never tells.
func noAmounts() []string {
	return []string{
		"", "-", ".", "-.", "0", "1", "12", "123", "1234", "-1", "-12",
		".0", ".00", ".50", "-.50", "1.", "1.0", "1.000", "-1.0", "12.3", "1.2.3", "1..00", "1.00.", "0.0.0",
		"-0.00", "+0.00", "+1.00", "--1.00", "-+1.00", "+-1.00", "1.-5", "1.+5", "1.0-", "-.-1", "+.00",
		"00.00", "01.00", "-01.00", "-00.01", "000001.00",
		" 1.00", "1.00 ", "1 .00", "1. 00", "\t1.00", "1.00\n", "1.00\x00", "\x001.00",
		"1,00", "1:00", "1000", "1\x0000", "a.00", "1.0a", "1.a0", "1e3.00", "0x1.00", "1_0.00", "1_000.00", "inf.00", "NaN",
		"92233720368547758.08", "-92233720368547758.09", "99999999999999999.99", "-99999999999999999.99", "184467440737095516.16", "184467440737095516.17",
		"092233720368547758.07", "100000000000000000.00", "1000000000000000000.00", strings.Repeat("9", 100000) + ".00", strings.Repeat("0", 100000) + "1.00",
		"\u0661.00", "1\uff0e00", "\xff\xfe.00", "\u22121.00", "1.0\u0660",
	}
}

// 1.10: a text that is no amount is refused.
func TestTextsThatAreNoAmount(t *testing.T) {
	for _, text := range noAmounts() {
		if got, ok := money.Parse(text); got != 0 || ok {
			t.Errorf("1.10: Parse(%.40q) = %d, %v, want it refused", text, got, ok)
		}
	}
}

// 1.10: every text near an amount is either the amount's own, or refused: any byte at any place.
func TestTextsNearAnAmount(t *testing.T) {
	for _, text := range []string{"0.00", "-0.05", "12.34", "-120.50", "92233720368547758.07", "-92233720368547758.08"} {
		for place := range len(text) {
			for b := range 256 {
				near := text[:place] + string([]byte{byte(b)}) + text[place+1:]
				checkText(t, near)
				checkText(t, text[:place]+string([]byte{byte(b)})+text[place:])
			}
			checkText(t, text[:place]+text[place+1:])
			checkText(t, text[:place])
		}
	}
}

// checkText holds Parse against the form of 1.9, byte by byte.
func checkText(t *testing.T, text string) {
	t.Helper()
	want, wantOK := readText(text)
	if got, ok := money.Parse(text); got != want || ok != wantOK {
		t.Errorf("1.10: Parse(%q) = %d, %v, want %d, %v", text, got, ok, want, wantOK)
	}
}

// readText reads an amount by the words of 1.9, with numbers without bounds.
func readText(text string) (int64, bool) {
	digits, below := strings.CutPrefix(text, "-")
	units, hundredths, ok := strings.Cut(digits, ".")
	if !ok || !allDigits(units) || !allDigits(hundredths) || len(hundredths) != 2 || len(units) > 1 && units[0] == '0' {
		return 0, false
	}
	amount, _ := new(big.Int).SetString(units+hundredths, 10)
	if below && amount.Sign() == 0 {
		return 0, false
	}
	if below {
		amount.Neg(amount)
	}
	return fit(amount)
}

func allDigits(text string) bool {
	for i := range len(text) {
		if text[i] < '0' || text[i] > '9' {
			return false
		}
	}
	return text != ""
}

// 1.1: a call answers the same whenever it is asked, whatever was asked between.
func TestAnswersHangOnArgumentsAlone(t *testing.T) {
	type answer struct {
		add, product, near, q, r, bps int64
		text                          string
		ok                            [5]bool
	}
	ask := func(a, b, c int64) answer {
		var x answer
		x.add, x.ok[0] = money.Add(a, b)
		x.product, x.ok[1] = money.Mul(a, b)
		x.near, x.ok[2] = money.MulDiv(a, b, c)
		x.q, x.r, x.ok[3] = money.MulDivFloor(a, b, c)
		x.bps, x.ok[4] = money.Bps(a, b)
		x.text = money.Format(a)
		return x
	}
	list := spread(3000)
	first := make([]answer, len(list)-2)
	for i := range first {
		first[i] = ask(list[i], list[i+1], list[i+2])
	}
	for i := len(first) - 1; i >= 0; i-- {
		if again := ask(list[i], list[i+1], list[i+2]); again != first[i] {
			t.Errorf("1.1: asked again of %d, %d, %d: %+v, want %+v", list[i], list[i+1], list[i+2], again, first[i])
		}
	}
}
