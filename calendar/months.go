package calendar

import "arrears/api"

// lastMonth is the place of the last month of all; the first one's is 0.
const lastMonth = lastYear*monthsOfYear - 1

// longestMonth is the greatest day of the month that there is.
const longestMonth = 31

// AddMonths is the day so many months on, its day of the month as near to anchor as the month allows.
func AddMonths(day, months, anchor int) (int, bool) {
	date, ok := Civil(day)
	if !ok || anchor < 1 || anchor > longestMonth {
		return 0, false
	}
	place := (date.Year-1)*monthsOfYear + date.Month - 1
	// The months are held against the room on both sides: added first, they could wrap.
	if months < -place || months > lastMonth-place {
		return 0, false
	}
	place += months
	year, month := place/monthsOfYear+1, place%monthsOfYear+1
	return Number(api.Date{Year: year, Month: month, Day: min(anchor, MonthLen(year, month))})
}

// Between counts days from one day to another by a basis.
func Between(from, to, basis int) (int, bool) {
	if !isDay(from) || !isDay(to) {
		return 0, false
	}
	switch basis {
	case api.BasisActual:
		return to - from, true
	case api.BasisThirty:
		if from > to {
			return -thirties(to, from), true
		}
		return thirties(from, to), true
	}
	return 0, false
}

// thirties counts from one day to another that is not ahead of it, as if each month had 30 days.
func thirties(from, to int) int {
	start, _ := Civil(from)
	end, _ := Civil(to)
	first, last := min(start.Day, 30), end.Day
	if first == 30 {
		last = min(last, 30)
	}
	return 360*(end.Year-start.Year) + 30*(end.Month-start.Month) + last - first
}
