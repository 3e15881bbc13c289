package policy_test

import (
	"testing"

	"arrears/api"
	"arrears/policy"
)

// on is the policy of the examples with holidays.
func on(holidays []int) api.Policy {
	return with(func(p *api.Policy) { p.Holidays = holidays })
}

// upTo are so many days in a row, the last of them that one.
func upTo(count, last int) []int {
	days := make([]int, count)
	for i := range days {
		days[i] = last - count + 1 + i
	}
	return days
}

// 12.1: no holidays, nil or empty, to as many as there may be.
func TestHowManyHolidays(t *testing.T) {
	passes(t, on(nil))
	passes(t, on([]int{}))
	for count := range 65 {
		passes(t, on(upTo(count, count)))
		passes(t, on(upTo(count, 3652059)))
	}
	for _, count := range []int{65, 66, 128, 256, 1000} {
		refuses(t, on(upTo(count, count)), 18)
		refuses(t, on(upTo(count, 3652059)), 18)
	}
}

// 12.1: room behind the list's end counts for nothing.
func TestHolidaysWithSpareRoom(t *testing.T) {
	passes(t, on(upTo(200, 200)[:64]))
	passes(t, on([]int{1, 2, 3, 3, 0}[:3]))
	passes(t, on([]int{0}[:0]))
	refuses(t, on(upTo(200, 200)[:65]), 18)
}

// 12.1: a day alone, at the ends of the days and beyond.
func TestOneHoliday(t *testing.T) {
	for _, day := range []int{1, 2, 738000, 3652058, 3652059} {
		passes(t, on([]int{day}))
	}
	for _, day := range []int{least, -1 << 32, -3652059, -1, 0, 3652060, 1 << 31, 1<<32 + 1, most} {
		refuses(t, on([]int{day}), 18)
	}
}

// 12.1: at each place of a list, a day that is not above the one before, or that is no day.
func TestEachHoliday(t *testing.T) {
	for _, count := range []int{2, 3, 17, 63, 64} {
		for at := range count {
			for _, day := range []int{least, -1, 0, 3652060, 1<<32 + 700, most} {
				days := upTo(count, 738000)
				days[at] = day
				refuses(t, on(days), 18)
			}
			if at == 0 {
				continue
			}
			same, exchanged := upTo(count, 738000), upTo(count, 738000)
			same[at] = same[at-1]
			refuses(t, on(same), 18)
			exchanged[at], exchanged[at-1] = exchanged[at-1], exchanged[at]
			refuses(t, on(exchanged), 18)
		}
	}
}

// 12.1: each day is held against the one before it, not against the first.
func TestHolidaysRiseAllAlong(t *testing.T) {
	passes(t, on([]int{1, 3, 4, 900, 3652059}))
	refuses(t, on([]int{1, 5, 3, 4}), 18)
	refuses(t, on([]int{1, 5, 9, 5}), 18)
	refuses(t, on([]int{9, 8, 7}), 18)
	refuses(t, on([]int{3652059, 1}), 18)
}

// 12.1: a holiday may lie ahead of the first day, on it and behind it.
func TestHolidaysAboutTheFirstDay(t *testing.T) {
	p := on([]int{1, 738000, 738001})
	for _, day := range []int{1, 738000, 3652059} {
		p.FirstDay = day
		passes(t, p)
	}
}

// 12.2 to 12.6: of holidays that may be, the other calls know nothing.
func TestHolidaysCountForNothingElse(t *testing.T) {
	for _, days := range [][]int{nil, {}, {1}, {5, 6}, upTo(64, 3652059)} {
		p := on(days)
		charges(t, p, 100000, 5000)
		assesses(t, p, 100000, 18000, 18000, 2000)
		waits(t, p, 3, 8)
		comesTo(t, p, 162, 18)
	}
}

// 12.1 to 12.6: the holidays are the same behind each call, also where they may not be, and what lies behind them too.
func TestHolidaysStay(t *testing.T) {
	for _, days := range [][]int{{}, {1}, {5, 6, 9}, {5, 5}, {9, 4, 2}, {0, -1}, upTo(64, 64), upTo(65, 65)} {
		room := append(append([]int{77}, days...), 3, 2, 1)
		p := on(room[1 : 1+len(days)])
		policy.Check(p)
		policy.LateFee(p, 100000)
		policy.Assess(p, 100000, 1, 2)
		policy.Backoff(p, 3)
		policy.Bound(p)
		policy.Window(p)
		for i, day := range append(append([]int{77}, days...), 3, 2, 1) {
			if room[i] != day {
				t.Errorf("12: holidays %v: place %d is now %d", days, i-1, room[i])
			}
		}
	}
}

// 12.1: nothing is kept: a list that is written over is looked at anew.
func TestHolidaysAreNotKept(t *testing.T) {
	days := []int{5, 6}
	p := on(days)
	for range 3 {
		passes(t, p)
		days[1] = 5
		refuses(t, p, 18)
		days[1] = 6
	}
	passes(t, p)
}
