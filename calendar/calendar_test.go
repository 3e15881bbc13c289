package calendar_test

import (
	"math"
	"testing"
	"time"

	"arrears/api"
	"arrears/calendar"
)

const (
	lowest  = math.MinInt
	highest = math.MaxInt
	// epoch is the number of the day from which Go's library counts.
	epoch = 719163
)

// noDays are numbers that no day has: those beside the ends, and the ends of int.
func noDays() []int {
	return []int{lowest, lowest + 1, -3652059, -146097, -1, 0, api.MaxDay + 1, api.MaxDay + 2, 1 << 31, 1 << 32, highest - 1, highest}
}

// clock is a day as the library knows it.
func clock(day int) time.Time {
	return time.Unix(int64(day-epoch)*86400, 0).UTC()
}

// lengthOf is a month's length as the library knows it.
func lengthOf(year, month int) int {
	return time.Date(year, time.Month(month)+1, 0, 0, 0, 0, 0, time.UTC).Day()
}

// dayOf is the number of a date as the library knows it.
func dayOf(year, month, day int) int {
	return int(time.Date(year, time.Month(month), day, 0, 0, 0, 0, time.UTC).Unix()/86400) + epoch
}

// edgeDays are the days about the ends of the months that the document names: first and last years, and those beside the ends of 4, 100 and 400 years.
func edgeDays() []int {
	var list []int
	for _, year := range []int{1, 2, 3, 4, 5, 99, 100, 101, 399, 400, 401, 1599, 1600, 1899, 1900, 1901, 1999, 2000, 2001, 2023, 2024, 2100, 9600, 9900, 9996, 9998, 9999} {
		for month := 1; month <= 12; month++ {
			length := lengthOf(year, month)
			for _, day := range []int{1, 2, 15, 27, 28, length - 1, length} {
				list = append(list, dayOf(year, month, day))
			}
		}
	}
	return list
}

// spread makes numbers from 0 up to below a bound, the same ones in each run.
func spread(count, bound int) []int {
	list := make([]int, count)
	state := uint64(count)
	for i := range list {
		state = state*6364136223846793005 + 1442695040888963407
		list[i] = int(state >> 33 % uint64(bound))
	}
	return list
}

// 2.1: every year, and what is no year.
func TestLeapYears(t *testing.T) {
	for year := 1; year <= 9999; year++ {
		if got, want := calendar.Leap(year), lengthOf(year, 2) == 29; got != want {
			t.Errorf("2.1: Leap(%d) = %v, want %v", year, got, want)
		}
	}
	for _, year := range []int{lowest, lowest + 400, -2000, -400, -100, -4, -1, 0, 10000, 10004, 10400, 12000, 1 << 31, 1 << 32, highest - 3, highest} {
		if calendar.Leap(year) {
			t.Errorf("2.1: Leap(%d) = true, but it is no year", year)
		}
	}
}

// 2.1: the document's own examples.
func TestLeapExamples(t *testing.T) {
	for _, c := range []struct {
		year int
		want bool
	}{{1900, false}, {2000, true}, {4, true}, {0, false}, {-4, false}, {10000, false}} {
		if got := calendar.Leap(c.year); got != c.want {
			t.Errorf("2.1: Leap(%d) = %v, want %v", c.year, got, c.want)
		}
	}
}

// 2.2: every month of every year.
func TestMonthLengths(t *testing.T) {
	for year := 1; year <= 9999; year++ {
		for month := 1; month <= 12; month++ {
			if got, want := calendar.MonthLen(year, month), lengthOf(year, month); got != want {
				t.Errorf("2.2: MonthLen(%d, %d) = %d, want %d", year, month, got, want)
			}
		}
	}
}

// 2.2: what is no year or no month has the length 0.
func TestMonthLengthsOfNothing(t *testing.T) {
	for _, year := range []int{lowest, -4, -1, 0, 10000, 10400, highest} {
		for month := -1; month <= 13; month++ {
			if got := calendar.MonthLen(year, month); got != 0 {
				t.Errorf("2.2: MonthLen(%d, %d) = %d, want 0", year, month, got)
			}
		}
	}
	for _, month := range []int{lowest, lowest + 1, -12, -2, -1, 0, 13, 14, 24, 1<<32 + 2, highest} {
		for _, year := range []int{1, 2000, 2023, 9999} {
			if got := calendar.MonthLen(year, month); got != 0 {
				t.Errorf("2.2: MonthLen(%d, %d) = %d, want 0", year, month, got)
			}
		}
	}
}

// 2.3, 2.4, 2.5: every day there is, told from the date and back, with its weekday.
func TestEveryDay(t *testing.T) {
	date := api.Date{Year: 1, Month: 1, Day: 1}
	weekday := 1
	for day := 1; day <= api.MaxDay; day++ {
		if got, ok := calendar.Number(date); got != day || !ok {
			t.Fatalf("2.3: Number(%v) = %d, %v, want %d", date, got, ok, day)
		}
		if got, ok := calendar.Civil(day); got != date || !ok {
			t.Fatalf("2.4: Civil(%d) = %v, %v, want %v", day, got, ok, date)
		}
		if got, ok := calendar.Weekday(day); got != weekday || !ok {
			t.Fatalf("2.5: Weekday(%d) = %d, %v, want %d", day, got, ok, weekday)
		}
		year, month, dom := clock(day + 1).Date()
		date = api.Date{Year: year, Month: int(month), Day: dom}
		weekday = weekday%7 + 1
	}
}

// 2.3: the document's own examples, and the ends of years of 4, 100 and 400 years.
func TestNumberExamples(t *testing.T) {
	for _, c := range []struct{ year, month, day, want int }{
		{1, 1, 1, 1}, {1, 2, 1, 32}, {2, 1, 1, 366}, {9999, 12, 31, 3652059},
		{2000, 3, 1, 730180}, {1970, 1, 1, 719163}, {2000, 2, 29, 730179},
		{4, 12, 31, 1461}, {5, 1, 1, 1462}, {100, 12, 31, 36524}, {101, 1, 1, 36525},
		{400, 12, 31, 146097}, {401, 1, 1, 146098},
	} {
		date := api.Date{Year: c.year, Month: c.month, Day: c.day}
		if got, ok := calendar.Number(date); got != c.want || !ok {
			t.Errorf("2.3: Number(%v) = %d, %v, want %d", date, got, ok, c.want)
		}
		if got, ok := calendar.Civil(c.want); got != date || !ok {
			t.Errorf("2.4: Civil(%d) = %v, %v, want %v", c.want, got, ok, date)
		}
	}
}

// 2.3: numbers that are no date.
func TestNumberOfNoDate(t *testing.T) {
	refused := func(year, month, day int) {
		t.Helper()
		if got, ok := calendar.Number(api.Date{Year: year, Month: month, Day: day}); got != 0 || ok {
			t.Errorf("2.3: Number of %d, %d, %d = %d, %v, want 0, false", year, month, day, got, ok)
		}
	}
	for _, year := range []int{1, 4, 100, 400, 1900, 2000, 2023, 2024, 9999} {
		for month := 1; month <= 12; month++ {
			for _, day := range []int{lowest, -1, 0, lengthOf(year, month) + 1, 32, 1 << 32, 1<<32 + 1, highest} {
				refused(year, month, day)
			}
		}
		for _, month := range []int{lowest, -1, 0, 13, 1<<32 + 1, highest} {
			refused(year, month, 0)
			refused(year, month, 1)
			refused(year, month, 28)
		}
	}
	for _, year := range []int{lowest, -400, -4, -1, 0, 10000, 10400, 1<<32 + 1, highest} {
		refused(year, 1, 1)
		refused(year, 2, 29)
		refused(year, 12, 31)
	}
	refused(0, 0, 0)
}

// 2.4, 2.5, 2.11: what is no day has no date, no weekday and no text.
func TestNoDays(t *testing.T) {
	for _, day := range noDays() {
		if got, ok := calendar.Civil(day); got != (api.Date{}) || ok {
			t.Errorf("2.4: Civil(%d) = %v, %v, want zeros, false", day, got, ok)
		}
		if got, ok := calendar.Weekday(day); got != 0 || ok {
			t.Errorf("2.5: Weekday(%d) = %d, %v, want 0, false", day, got, ok)
		}
		if got, ok := calendar.FormatDate(day); got != "" || ok {
			t.Errorf("2.11: FormatDate(%d) = %q, %v, want an empty text, false", day, got, ok)
		}
	}
}

// 2.5: the document's own examples, and the last day.
func TestWeekdayExamples(t *testing.T) {
	for _, c := range []struct{ day, want int }{{1, 1}, {7, 7}, {8, 1}, {719163, 4}, {api.MaxDay, 5}} {
		if got, ok := calendar.Weekday(c.day); got != c.want || !ok {
			t.Errorf("2.5: Weekday(%d) = %d, %v, want %d", c.day, got, ok, c.want)
		}
	}
}

// 2.12: 400 years later come the same month, day of the month and weekday.
func TestComesAgain(t *testing.T) {
	const cycle = 146097
	for day := 1; day+cycle <= api.MaxDay; day += 13 {
		early, _ := calendar.Civil(day)
		late, ok := calendar.Civil(day + cycle)
		if want := (api.Date{Year: early.Year + 400, Month: early.Month, Day: early.Day}); late != want || !ok {
			t.Fatalf("2.12: Civil(%d) = %v, %v, want %v", day+cycle, late, ok, want)
		}
		first, _ := calendar.Weekday(day)
		second, _ := calendar.Weekday(day + cycle)
		if first != second {
			t.Fatalf("2.12: Weekday(%d) = %d, but Weekday(%d) = %d", day, first, day+cycle, second)
		}
	}
}
