package calendar_test

import (
	"testing"

	"arrears/api"
	"arrears/calendar"
)

// monthsOn goes on or back month by month, as one would on paper.
func monthsOn(day, months, anchor int) (int, bool) {
	year, month, _ := clock(day).Date()
	y, m := year, int(month)
	for ; months > 0; months-- {
		if m++; m == 13 {
			y, m = y+1, 1
		}
	}
	for ; months < 0; months++ {
		if m--; m == 0 {
			y, m = y-1, 12
		}
	}
	if y < 1 || y > 9999 {
		return 0, false
	}
	return dayOf(y, m, min(anchor, lengthOf(y, m))), true
}

// 2.6: months on and back, across the ends of months and years, with each anchor.
func TestAddMonthsOnPaper(t *testing.T) {
	steps := []int{-1201, -49, -48, -25, -13, -12, -11, -3, -2, -1, 0, 1, 2, 3, 11, 12, 13, 25, 48, 49, 1201}
	for _, day := range edgeDays() {
		for _, months := range steps {
			for _, anchor := range []int{1, 2, 15, 27, 28, 29, 30, 31} {
				want, wantOK := monthsOn(day, months, anchor)
				if got, ok := calendar.AddMonths(day, months, anchor); got != want || ok != wantOK {
					t.Fatalf("2.6: AddMonths(%d, %d, %d) = %d, %v, want %d, %v", day, months, anchor, got, ok, want, wantOK)
				}
			}
		}
	}
}

// 2.6: the document's own examples.
func TestAddMonthsExamples(t *testing.T) {
	for _, c := range []struct{ day, months, anchor, want int }{
		{dayOf(2023, 1, 31), 1, 31, dayOf(2023, 2, 28)},
		{dayOf(2023, 2, 28), 1, 31, dayOf(2023, 3, 31)},
		{dayOf(2024, 3, 5), -1, 30, dayOf(2024, 2, 29)},
		{dayOf(2024, 3, 31), 0, 5, dayOf(2024, 3, 5)},
		{1, 119987, 31, api.MaxDay},
		{31, 119987, 1, dayOf(9999, 12, 1)},
		{api.MaxDay, -119987, 1, 1},
		{dayOf(9999, 12, 1), -119987, 31, 31},
		{api.MaxDay, 0, 31, api.MaxDay},
		{1, 0, 1, 1},
	} {
		if got, ok := calendar.AddMonths(c.day, c.months, c.anchor); got != c.want || !ok {
			t.Errorf("2.6: AddMonths(%d, %d, %d) = %d, %v, want %d", c.day, c.months, c.anchor, got, ok, c.want)
		}
	}
}

// 2.6: no day, no anchor, and months that lead out of the years, however far.
func TestAddMonthsRefused(t *testing.T) {
	refused := func(day, months, anchor int) {
		t.Helper()
		if got, ok := calendar.AddMonths(day, months, anchor); got != 0 || ok {
			t.Errorf("2.6: AddMonths(%d, %d, %d) = %d, %v, want 0, false", day, months, anchor, got, ok)
		}
	}
	for _, day := range noDays() {
		for _, months := range []int{lowest, -1, 0, 1, highest} {
			refused(day, months, 15)
		}
	}
	for _, anchor := range []int{lowest, -1, 0, 32, 33, 1 << 32, 1<<32 + 1, highest} {
		refused(1, 0, anchor)
		refused(738000, 1, anchor)
		refused(738000, -1, anchor)
	}
	far := []int{119988, 119989, 120000, 1 << 31, 1 << 32, highest - 119988, highest - 1, highest}
	for _, day := range []int{1, 31, 32, 738000, dayOf(9999, 11, 30), dayOf(9999, 12, 1), api.MaxDay} {
		for _, months := range far {
			refused(day, months, 1)
			refused(day, -months, 1)
		}
		refused(day, lowest, 31)
		refused(day, lowest+119988, 31)
	}
	refused(1, -1, 1)
	refused(31, -1, 31)
	refused(32, -2, 1)
	refused(api.MaxDay, 1, 1)
	refused(dayOf(9999, 12, 1), 1, 1)
	refused(dayOf(9999, 11, 30), 2, 1)
}

// 2.12: a months on and then b is a + b on, wherever the first step is not refused.
func TestMonthsAddUp(t *testing.T) {
	steps := []int{-119987, -1200, -13, -12, -1, 0, 1, 11, 12, 13, 1200, 119987}
	days := append([]int{1, 31, 32, 59, 60, api.MaxDay - 31, api.MaxDay - 30, api.MaxDay}, spread(400, api.MaxDay)...)
	for _, day := range days {
		day = max(day, 1)
		for _, a := range steps {
			for _, b := range steps {
				for _, anchor := range []int{1, 28, 29, 30, 31} {
					middle, ok := calendar.AddMonths(day, a, anchor)
					if !ok {
						continue
					}
					want, wantOK := calendar.AddMonths(day, a+b, anchor)
					if got, ok := calendar.AddMonths(middle, b, anchor); got != want || ok != wantOK {
						t.Fatalf("2.12: from %d, %d months and %d at %d lead to %d, %v, both at once to %d, %v", day, a, b, anchor, got, ok, want, wantOK)
					}
				}
			}
		}
	}
}
