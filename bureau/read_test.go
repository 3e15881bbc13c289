package bureau_test

import (
	"fmt"
	"math/rand"
	"slices"
	"strings"
	"testing"

	"arrears/bureau"
)

// good is a file with all letters.
func good() string {
	return file("BUREAU 2021-10-31 4", "7 3 1230.00 300.00 3210--------", "9 C 0.00 0.00 C00000000000", "12 P 10.05 10.05 P4444XXXXXXX", "999999 X 0.00 0.07 XP0123444---", "TOTAL 1240.05 310.12")
}

// empty is a file without loans, of that date.
func empty(date string) string { return file("BUREAU "+date+" 0", "TOTAL 0.00 0.00") }

// as holds Read to the model.
func as(t *testing.T, text string) bool {
	t.Helper()
	n, owed, pastDue, ok := bureau.Read([]byte(text))
	n1, owed1, pastDue1, ok1 := modelRead(text)
	if n != n1 || owed != owed1 || pastDue != pastDue1 || ok != ok1 {
		t.Errorf("24.4: Read(%q) = %d, %d, %d, %v, want %d, %d, %d, %v", text, n, owed, pastDue, ok, n1, owed1, pastDue1, ok1)
	}
	return ok
}

// 24.4: what is read.
func TestReadReads(t *testing.T) {
	reads(t, good(), 4, 124005, 31012)
	reads(t, file("BUREAU 0001-01-31 1", "1 0 0.00 0.00 000000000000", "TOTAL 0.00 0.00"), 1, 0, 0)
	// A line need not be one that File would tell.
	reads(t, file("BUREAU 9999-12-31 1", "1 C 5.00 7.00 CCCCCCCCCCC-", "TOTAL 5.00 7.00"), 1, 500, 700)
	for _, letter := range "CXP01234" {
		reads(t, file("BUREAU 2021-10-31 1", fmt.Sprintf("7 %c 1.00 2.00 %c-----------", letter, letter), "TOTAL 1.00 2.00"), 1, 100, 200)
	}
}

// 24.4: the date must be a month's end.
func TestReadDates(t *testing.T) {
	for day := 1; day <= 1500; day++ {
		if date := dateOf(day).Format("2006-01-02"); isEnd(day) {
			reads(t, empty(date), 0, 0, 0)
		} else {
			readsNot(t, empty(date))
		}
	}
	for _, date := range []string{"2000-02-29", "2024-02-29", "2023-02-28", "1900-02-28", "9999-12-31", "0001-01-31"} {
		reads(t, empty(date), 0, 0, 0)
	}
	for _, date := range []string{"2000-02-28", "2024-02-28", "2023-02-29", "1900-02-29", "9999-12-30", "0000-01-31", "0000-12-31", "10000-01-31", "2021-10-32", "2021-13-31", "2021-00-31", "2021-9-30", "21-09-30", "+021-10-31", "2021/10/31", "2021-10-3l", "", "-", "2021-10-31 "} {
		readsNot(t, empty(date))
	}
}

// 24.4: the number of lines, and the loans' numbers.
func TestReadNumbers(t *testing.T) {
	var lines []string
	for count := range 40 {
		text := file(slices.Concat([]string{fmt.Sprintf("BUREAU 2021-10-31 %d", count)}, lines, []string{fmt.Sprintf("TOTAL %d.00 0.00", count)})...)
		if count <= 32 {
			reads(t, text, count, int64(100*count), 0)
		} else {
			readsNot(t, text)
		}
		for _, other := range []string{"", "0", "-", fmt.Sprint(count + 1), fmt.Sprint(count - 1), fmt.Sprintf("0%d", count), fmt.Sprintf("+%d", count), fmt.Sprintf("-%d", count), fmt.Sprintf("%d.", count), fmt.Sprintf("%d ", count), "18446744073709551616", "4294967296"} {
			if other != fmt.Sprint(count) {
				readsNot(t, strings.Replace(text, fmt.Sprintf("31 %d\n", count), fmt.Sprintf("31 %s\n", other), 1))
			}
		}
		lines = append(lines, fmt.Sprintf("%d 0 1.00 0.00 000000000000", count+1))
	}
	for _, number := range []string{"1", "2", "9", "10", "999998", "999999"} {
		reads(t, file("BUREAU 2021-10-31 1", number+" 0 0.00 0.00 000000000000", "TOTAL 0.00 0.00"), 1, 0, 0)
	}
	for _, number := range []string{"", "0", "00", "-0", "-1", "+1", "01", "007", "1000000", "9999999", "1.0", "1e3", "0x1", "1_0", "x", "18446744073709551617", "\u0661"} {
		readsNot(t, file("BUREAU 2021-10-31 1", number+" 0 0.00 0.00 000000000000", "TOTAL 0.00 0.00"))
	}
	for _, pair := range [][2]int{{1, 1}, {2, 1}, {999999, 1}, {10, 9}, {12, 2}} {
		one, two := fmt.Sprintf("%d 0 0.00 0.00 000000000000", pair[0]), fmt.Sprintf("%d 0 0.00 0.00 000000000000", pair[1])
		readsNot(t, file("BUREAU 2021-10-31 2", one, two, "TOTAL 0.00 0.00"))
		if pair[0] != pair[1] {
			reads(t, file("BUREAU 2021-10-31 2", two, one, "TOTAL 0.00 0.00"), 2, 0, 0)
		}
	}
}

// 24.4: the letters and the profiles.
func TestReadLetters(t *testing.T) {
	for b := range 256 {
		for place := range 12 {
			profile := []byte("C----------C")
			profile[place] = byte(b)
			text := file("BUREAU 2021-10-31 1", "7 C 0.00 0.00 "+string(profile), "TOTAL 0.00 0.00")
			if want := strings.ContainsRune("CXP01234-", rune(b)) && (place > 0 || b == 'C'); as(t, text) != want {
				t.Errorf("24.4: Read(%q) is not %v", text, want)
			}
		}
		text := file("BUREAU 2021-10-31 1", "7 "+string([]byte{byte(b)})+" 0.00 0.00 "+string([]byte{byte(b)})+"-----------", "TOTAL 0.00 0.00")
		if want := strings.ContainsRune("CXP01234", rune(b)); as(t, text) != want {
			t.Errorf("24.4: Read(%q) is not %v", text, want)
		}
	}
	for _, pair := range [][2]string{{"", ""}, {"", "-----------"}, {"", "------------"}, {"C", "C"}, {"C", "C----------"}, {"C", "C------------"}, {"C", "X-----------"}, {"C", "0-----------"}, {"C", "------------"}, {"CX", "CX----------"}, {"01", "01----------"}, {"c", "c-----------"}, {"5", "5-----------"}, {"C", "C----------\u00e9"}, {"C", "C---------\u00e9"}} {
		readsNot(t, file("BUREAU 2021-10-31 1", "7 "+pair[0]+" 0.00 0.00 "+pair[1], "TOTAL 0.00 0.00"))
	}
}

// 24.4: the amounts, and their exact sums.
func TestReadAmounts(t *testing.T) {
	one := func(owed, pastDue, total, totalPastDue string) string {
		return file("BUREAU 2021-10-31 1", "7 0 "+owed+" "+pastDue+" 0-----------", "TOTAL "+total+" "+totalPastDue)
	}
	for _, amount := range []string{"0.00", "0.01", "0.99", "1.00", "10.10", "92233720368547758.06", "92233720368547758.07"} {
		cents := number(amount).Int64()
		reads(t, one(amount, "0.00", amount, "0.00"), 1, cents, 0)
		reads(t, one("0.00", amount, "0.00", amount), 1, 0, cents)
		reads(t, one(amount, amount, amount, amount), 1, cents, cents)
	}
	for _, amount := range []string{"", "0", "-0.00", "-0.01", "-1.00", "+1.00", "01.00", "00.00", ".50", "1", "1.", "1.0", "1.000", "1,00", "1.0x", "x", "92233720368547758.08", "184467440737095516.16", "-92233720368547758.08", "\t1.00", "1.00\r"} {
		readsNot(t, one(amount, "0.00", amount, "0.00"))
		readsNot(t, one("0.00", amount, "0.00", amount))
		readsNot(t, one(amount, "0.00", "0.00", "0.00"))
		readsNot(t, one("0.00", "0.00", "0.00", amount))
	}
	readsNot(t, one("5.00", "3.00", "3.00", "5.00"))
	readsNot(t, one("5.00", "3.00", "5.00", "3.01"))
	readsNot(t, one("5.00", "3.00", "4.99", "3.00"))

	// Sums that leave an int64 are no amount, wherever they would wrap to.
	two := func(owed, pastDue, total, totalPastDue string) string {
		return file("BUREAU 2021-10-31 2", "7 0 "+owed+" "+pastDue+" 0-----------", "8 0 "+owed+" "+pastDue+" 0-----------", "TOTAL "+total+" "+totalPastDue)
	}
	reads(t, two("46116860184273879.03", "0.00", "92233720368547758.06", "0.00"), 2, 9223372036854775806, 0)
	for _, sum := range []string{"0.00", "-0.02", "0.02", "92233720368547758.07", "184467440737095516.14", "92233720368547758.08", "-92233720368547758.08"} {
		readsNot(t, two("92233720368547758.07", "0.00", sum, "0.00"))
		readsNot(t, two("0.00", "92233720368547758.07", "0.00", sum))
		readsNot(t, two("46116860184273879.04", "0.00", sum, "0.00"))
		readsNot(t, two("0.00", "46116860184273879.04", "0.00", sum))
	}
}

// 24.4: a line out of its place, doubled or missing, and what is no line.
func TestReadLines(t *testing.T) {
	lines := strings.SplitAfter(good(), "\n")
	lines = lines[:len(lines)-1]
	others := append(slices.Clone(lines), "", "\n", " \n", "BUREAU\n", "BUREAU 2021-10-31\n", "BUREAU 2021-10-31 4 \n", "BUREAU 2021-10-31 4 5\n", "TOTAL\n", "TOTAL 0.00\n", "TOTAL 0.00 0.00\n", "TOTAL 1240.05 310.12 0.00\n", "TOTAL 7 0 0.00 0.00\n", "BUREAU 7 0 0.00 0.00\n", "8 0 0.00 0.00\n", "8 0 0.00 0.00 0-----------\n", "8 0 0.00 0.00 0----------- 0\n", "# a remark\n", "\x00", "7", "\r\n")
	for place := range lines {
		rest := slices.Delete(slices.Clone(lines), place, place+1)
		as(t, strings.Join(rest, ""))
		for _, other := range others {
			as(t, strings.Join(slices.Insert(slices.Clone(rest), place, other), ""))
			as(t, strings.Join(slices.Insert(slices.Clone(lines), place, other), ""))
		}
		for i := range rest {
			as(t, strings.Join(slices.Insert(slices.Clone(rest), i, lines[place]), ""))
		}
	}
	for _, other := range others {
		if other != "" {
			readsNot(t, good()+other)
		}
	}
	readsNot(t, good()+good())
	readsNot(t, "TOTAL 0.00 0.00\n")
	readsNot(t, "TOTAL 0.00 0.00\nTOTAL 0.00 0.00\n")
	readsNot(t, "BUREAU 2021-10-31 0\n")
	readsNot(t, "BUREAU 2021-10-31 0\nBUREAU 2021-10-31 0\nTOTAL 0.00 0.00\n")
	readsNot(t, empty("2021-10-31")+"TOTAL 0.00 0.00\n")
}

// 24.4: every beginning of a file, every byte in each place, one more and one less, held against the model.
func TestReadEveryByte(t *testing.T) {
	for _, text := range []string{hOf(), good(), empty("2021-10-31")} {
		for place := range text {
			readsNot(t, text[:place])
			as(t, text[place:])
			as(t, text[:place]+text[place+1:])
			for b := range 256 {
				as(t, text[:place]+string([]byte{byte(b)})+text[place+1:])
				as(t, text[:place]+string([]byte{byte(b)})+text[place:])
			}
		}
	}
}

// 24.4: files put together by lot, held against the model.
func TestReadByLot(t *testing.T) {
	random := rand.New(rand.NewSource(244))
	taken := 0
	for range 20000 {
		var lines []string
		number, owed, pastDue := 0, int64(0), int64(0)
		count := random.Intn(5)
		for range count {
			number += random.Intn(12)
			letter := among(random, "C", "X", "P", "0", "1", "2", "3", "4")
			profile := letter
			for range 11 {
				profile += among(random, "C", "X", "P", "0", "1", "2", "3", "4", "-")
			}
			owing, late := random.Int63n(100000), random.Int63n(100000)
			owed, pastDue = owed+owing, pastDue+late
			lines = append(lines, fmt.Sprintf("%d %s %s %s %s", number, letter, cents(owing), cents(late), profile))
		}
		text := file(slices.Concat([]string{fmt.Sprintf("BUREAU 2021-%02d-%02d %d", 1+random.Intn(12), 30+random.Intn(2), count)}, lines, []string{"TOTAL " + cents(owed) + " " + cents(pastDue)})...)
		if random.Intn(2) == 0 {
			place := random.Intn(len(text))
			text = text[:place] + among(random, "", "0", "-", " ", "\n", "1", "C") + text[place+random.Intn(2):]
		}
		if as(t, text) {
			taken++
		}
	}
	if taken < 2000 {
		t.Errorf("%d files were read", taken)
	}
}

// 24.4: a long text is refused as well.
func TestReadLongTexts(t *testing.T) {
	for _, part := range []string{" ", "\n", "0", "a b ", "7 0 0.00 0.00 000000000000\n", "\xff"} {
		long := strings.Repeat(part, 1<<20)
		readsNot(t, long)
		readsNot(t, long+"\n")
		readsNot(t, "BUREAU 2021-10-31 1\n"+long)
		readsNot(t, good()+long)
	}
}
