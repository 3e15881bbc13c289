package calendar

import (
	"slices"

	"arrears/api"
)

// Business tells whether a day is neither at a weekend nor a holiday.
func Business(day int, holidays []int) bool {
	weekday, ok := Weekday(day)
	return ok && weekday <= lastWorkday && !slices.Contains(holidays, day)
}

// Adjust moves a day to a business day by a rule.
func Adjust(day int, holidays []int, rule int) (int, bool) {
	if !isDay(day) {
		return 0, false
	}
	switch rule {
	case api.RuleNone:
		return day, true
	case api.RuleFollowing:
		return nearest(day, 1, holidays)
	case api.RulePreceding:
		return nearest(day, -1, holidays)
	case api.RuleModified:
		next, ok := nearest(day, 1, holidays)
		if ok && sameMonth(day, next) {
			return next, true
		}
		return nearest(day, -1, holidays)
	}
	return 0, false
}

// nearest is the first business day that steps of one day (1 on, -1 back) meet from a day on.
func nearest(day, step int, holidays []int) (int, bool) {
	for count := range api.MaxAdjust + 1 {
		if met := day + count*step; Business(met, holidays) {
			return met, true
		}
	}
	return 0, false
}

func sameMonth(a, b int) bool {
	first, _ := Civil(a)
	second, _ := Civil(b)
	return first.Year == second.Year && first.Month == second.Month
}
