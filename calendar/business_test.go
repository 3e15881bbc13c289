package calendar_test

import (
	"slices"
	"testing"
	"time"

	"arrears/api"
	"arrears/calendar"
)

// works tells, by the library's weekdays, whether a number is a business day.
func works(day int, holidays []int) bool {
	if day < 1 || day > api.MaxDay {
		return false
	}
	for _, h := range holidays {
		if h == day {
			return false
		}
	}
	weekday := clock(day).Weekday()
	return weekday != time.Saturday && weekday != time.Sunday
}

// moved is what Adjust must answer, by the document's words.
func moved(day int, holidays []int, rule int) (int, bool) {
	switch rule {
	case api.RuleNone:
		return day, true
	case api.RuleFollowing:
		for d := day; d <= day+10; d++ {
			if works(d, holidays) {
				return d, true
			}
		}
	case api.RulePreceding:
		for d := day; d >= day-10; d-- {
			if works(d, holidays) {
				return d, true
			}
		}
	case api.RuleModified:
		next, ok := moved(day, holidays, api.RuleFollowing)
		if ok && clock(next).Month() == clock(day).Month() && clock(next).Year() == clock(day).Year() {
			return next, true
		}
		return moved(day, holidays, api.RulePreceding)
	}
	return 0, false
}

// span is the list of the days from one to another.
func span(from, to int) []int {
	var list []int
	for day := from; day <= to; day++ {
		list = append(list, day)
	}
	return list
}

// 2.7: weekends, holidays in any order and twice, and numbers that are no day.
func TestBusiness(t *testing.T) {
	holidays := []int{738010, 738002, 738002, -3, 0, 738020, lowest, highest, api.MaxDay + 1, 738010}
	for _, list := range [][]int{nil, {}, holidays} {
		for _, day := range slices.Concat(span(1, 40), span(737990, 738040), span(api.MaxDay-20, api.MaxDay)) {
			if got, want := calendar.Business(day, list), works(day, list); got != want {
				t.Errorf("2.7: Business(%d, %v) = %v, want %v", day, list, got, want)
			}
		}
		for _, day := range noDays() {
			if calendar.Business(day, list) {
				t.Errorf("2.7: Business(%d, %v) = true, but it is no day", day, list)
			}
		}
	}
}

// 2.8: all rules, about the ends of months, with holidays in a row that end or begin there.
func TestAdjustAtMonthEnds(t *testing.T) {
	for _, end := range []int{31, 59, dayOf(2023, 2, 28), dayOf(2023, 9, 30), dayOf(2023, 12, 31), dayOf(2024, 2, 29), dayOf(2024, 3, 31), dayOf(2026, 5, 31), dayOf(9999, 11, 30), api.MaxDay} {
		lists := [][]int{nil, {}, {end}, {end + 1}, {end - 1, end, end + 1}, {end + 1, end + 2, end - 7, end - 7}}
		for length := 1; length <= 16; length++ {
			lists = append(lists, span(end-length+1, end), span(end+1, end+length), span(end-length, end+length))
		}
		for _, holidays := range lists {
			for day := max(end-14, 1); day <= min(end+14, api.MaxDay); day++ {
				for rule := api.RuleNone; rule <= api.RuleModified; rule++ {
					want, wantOK := moved(day, holidays, rule)
					if got, ok := calendar.Adjust(day, holidays, rule); got != want || ok != wantOK {
						t.Fatalf("2.8: Adjust(%d, %v, %d) = %d, %v, want %d, %v", day, holidays, rule, got, ok, want, wantOK)
					}
				}
			}
		}
	}
}

// 2.8: each day of a stretch, with holidays strewn over it, and both ends of the calendar.
func TestAdjustStrewn(t *testing.T) {
	for _, start := range []int{1, 738000, api.MaxDay - 60} {
		for round := 1; round <= 60; round++ {
			holidays := spread(round, 61)
			for i := range holidays {
				holidays[i] += start
			}
			for _, day := range span(start, start+60) {
				for rule := api.RuleNone; rule <= api.RuleModified; rule++ {
					want, wantOK := moved(day, holidays, rule)
					if got, ok := calendar.Adjust(day, holidays, rule); got != want || ok != wantOK {
						t.Fatalf("2.8: Adjust(%d, %v, %d) = %d, %v, want %d, %v", day, holidays, rule, got, ok, want, wantOK)
					}
				}
			}
		}
	}
}

// 2.8: the document's own examples.
func TestAdjustExamples(t *testing.T) {
	row := []int{8, 9, 10, 11, 12, 15, 16, 17}
	longer := []int{8, 9, 10, 11, 12, 15, 16, 17, 18}
	for _, c := range []struct {
		day      int
		holidays []int
		rule     int
		want     int
		ok       bool
	}{
		{6, nil, api.RuleFollowing, 8, true},
		{6, nil, api.RulePreceding, 5, true},
		{6, []int{8, 8, 5, -3}, api.RuleFollowing, 9, true},
		{6, []int{8, 5}, api.RulePreceding, 4, true},
		{6, []int{6}, api.RuleNone, 6, true},
		{dayOf(2023, 9, 30), nil, api.RuleModified, dayOf(2023, 9, 29), true},
		{1, []int{1}, api.RulePreceding, 0, false},
		{1, []int{1}, api.RuleModified, 2, true},
		{api.MaxDay, []int{api.MaxDay}, api.RuleFollowing, 0, false},
		{api.MaxDay, []int{api.MaxDay}, api.RuleModified, api.MaxDay - 1, true},
		{1, nil, 4, 0, false},
		{8, row, api.RuleFollowing, 18, true},
		{8, longer, api.RuleFollowing, 0, false},
		{8, longer, api.RuleModified, 5, true},
		{19, []int{19, 18, 17, 16, 15, 12, 11, 10}, api.RulePreceding, 9, true},
		{19, []int{19, 18, 17, 16, 15, 12, 11, 10, 9}, api.RulePreceding, 0, false},
	} {
		if got, ok := calendar.Adjust(c.day, c.holidays, c.rule); got != c.want || ok != c.ok {
			t.Errorf("2.8: Adjust(%d, %v, %d) = %d, %v, want %d, %v", c.day, c.holidays, c.rule, got, ok, c.want, c.ok)
		}
	}
}

// 2.8: where the next business day lies in the next year, RuleModified goes back.
func TestModifiedAtYearsEnd(t *testing.T) {
	feast := span(dayOf(2023, 12, 28), dayOf(2024, 1, 2))
	if got, ok := calendar.Adjust(dayOf(2023, 12, 30), feast, api.RuleModified); got != dayOf(2023, 12, 27) || !ok {
		t.Errorf("2.8: Adjust of 2023-12-30 by RuleModified = %d, %v, want 2023-12-27", got, ok)
	}
}

// 2.8: what is no day, and what is no rule.
func TestAdjustRefused(t *testing.T) {
	for _, day := range noDays() {
		for rule := api.RuleNone; rule <= api.RuleModified; rule++ {
			if got, ok := calendar.Adjust(day, nil, rule); got != 0 || ok {
				t.Errorf("2.8: Adjust(%d, nil, %d) = %d, %v, want 0, false", day, rule, got, ok)
			}
		}
	}
	for _, rule := range []int{lowest, -1, 4, 5, 1 << 32, 1<<32 + 1, highest} {
		if got, ok := calendar.Adjust(8, nil, rule); got != 0 || ok {
			t.Errorf("2.8: Adjust(8, nil, %d) = %d, %v, want 0, false", rule, got, ok)
		}
	}
}

// 2.7, 2.8: the holidays are the same behind the call, their spare room too.
func TestHolidaysStay(t *testing.T) {
	room := []int{12, 8, 8, 15, -3, 9, 10, 11, 7, 7}
	before := slices.Clone(room)
	for rule := api.RuleNone; rule <= api.RuleModified; rule++ {
		calendar.Adjust(8, room[:6], rule)
		calendar.Business(8, room[:6])
	}
	if !slices.Equal(room, before) {
		t.Errorf("2.8: the holidays were %v, and are %v", before, room)
	}
}
