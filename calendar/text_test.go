package calendar_test

import (
	"strings"
	"testing"

	"arrears/api"
	"arrears/calendar"
)

// 2.10, 2.11, 2.12: the text of every day, read back, and the texts in the order of the days.
func TestTextOfEveryDay(t *testing.T) {
	last := ""
	for day := 1; day <= api.MaxDay; day++ {
		text, ok := calendar.FormatDate(day)
		if !ok || len(text) != 10 {
			t.Fatalf("2.11: FormatDate(%d) = %q, %v", day, text, ok)
		}
		if got, ok := calendar.ParseDate(text); got != day || !ok {
			t.Fatalf("2.10: ParseDate(%q) = %d, %v, want %d", text, got, ok, day)
		}
		if text <= last {
			t.Fatalf("2.12: the text %q of day %d does not stand behind %q", text, day, last)
		}
		last = text
	}
}

// 2.11: the library's own text of days.
func TestTextsOfEdges(t *testing.T) {
	for _, day := range edgeDays() {
		if got, ok := calendar.FormatDate(day); got != clock(day).Format("2006-01-02") || !ok {
			t.Errorf("2.11: FormatDate(%d) = %q, %v, want %s", day, got, ok, clock(day).Format("2006-01-02"))
		}
	}
}

// 2.10, 2.11: the document's own examples.
func TestTextExamples(t *testing.T) {
	for _, c := range []struct {
		text string
		day  int
	}{{"2024-02-29", dayOf(2024, 2, 29)}, {"0001-01-01", 1}, {"2000-02-29", 730179}, {"9999-12-31", api.MaxDay}} {
		if got, ok := calendar.ParseDate(c.text); got != c.day || !ok {
			t.Errorf("2.10: ParseDate(%q) = %d, %v, want %d", c.text, got, ok, c.day)
		}
		if got, ok := calendar.FormatDate(c.day); got != c.text || !ok {
			t.Errorf("2.11: FormatDate(%d) = %q, %v, want %q", c.day, got, ok, c.text)
		}
	}
}

// 2.10: texts that are no date.
func TestNoDates(t *testing.T) {
	for _, text := range []string{
		"", "-", "--", "----------", "0000000000", "2023-02-29", "2024-2-29", "2024/02/29", "2024-02/29", "2024/02-29",
		"1900-02-29", "2023-04-31", "0000-01-01", "0000-00-00", "2024-00-01", "2024-13-01", "2024-01-00", "2024-01-32",
		"2024-01-1", "2024-01-001", "2024-001-01", "02024-01-01", "10000-01-01", "999-01-01", "12024-1-01",
		" 2024-01-01", "2024-01-01 ", "2024-01-01\n", "2024-01-01\x00", "2024-01 01", "2024--1-01", "-024-01-01", "+024-01-01",
		"2024-+1-01", "2024-01-+1", "2024-01--1", "2024-01- 1", "2024- 1-01", "0x24-01-01", "2_24-01-01",
		"20240101", "2024-0101-", "01-01-2024", "2024-01-0٣", "２024-01-", "\xff024-01-01", strings.Repeat("2024-01-01", 2),
	} {
		if got, ok := calendar.ParseDate(text); got != 0 || ok {
			t.Errorf("2.10: ParseDate(%q) = %d, %v, want 0, false", text, got, ok)
		}
	}
}

// 2.10: every byte in every place of a text that is a date.
func TestEveryByteOfADate(t *testing.T) {
	const text = "1911-11-11"
	for place := range len(text) {
		for value := range 256 {
			changed := []byte(text)
			changed[place] = byte(value)
			isDigit := value >= '0' && value <= '9'
			dash := place == 4 || place == 7
			want, wantOK := 0, false
			if dash && value == '-' || !dash && isDigit {
				want, wantOK = calendar.Number(api.Date{
					Year:  number(changed[:4]),
					Month: number(changed[5:7]),
					Day:   number(changed[8:]),
				})
			}
			if got, ok := calendar.ParseDate(string(changed)); got != want || ok != wantOK {
				t.Errorf("2.10: ParseDate(%q) = %d, %v, want %d, %v", changed, got, ok, want, wantOK)
			}
		}
	}
}

// number is the value of a few digits.
func number(digits []byte) int {
	value := 0
	for _, c := range digits {
		value = value*10 + int(c-'0')
	}
	return value
}
