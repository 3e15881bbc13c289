package bureau_test

import (
	"slices"
	"strings"
	"testing"

	"arrears/api"
)

// 24.2: what is refused, and which of several errors is answered.
func TestProfileRefuses(t *testing.T) {
	for _, p := range refused() {
		for _, ops := range [][]api.Op{nil, history()} {
			profilesNot(t, p, ops, 7, 4, api.ErrPolicy)
			profilesNot(t, p, ops, 8, 0, api.ErrPolicy)
		}
	}
	for _, months := range []int{least, -1, 0, 25, 26, most} {
		profilesNot(t, example(), history(), 7, months, api.ErrArg)
		profilesNot(t, example(), history(), 8, months, api.ErrArg)
		profilesNot(t, example(), nil, 0, months, api.ErrArg)
	}
	for _, id := range []int{least, -7, 0, 1, 6, 8, 999999, 1000000, most} {
		profilesNot(t, example(), history(), id, 1, api.ErrNoLoan)
		profilesNot(t, example(), nil, id, 24, api.ErrNoLoan)
	}
	// An opening that is refused opens nothing.
	profilesNot(t, example(), []api.Op{open(7, 0, 0, 12, api.PlanLevel), days(60)}, 7, 1, api.ErrNoLoan)
}

// 24.2: just so many letters as months were asked for.
func TestProfileLength(t *testing.T) {
	all := "3210" + strings.Repeat("-", 20)
	for months := 1; months <= 24; months++ {
		profiles(t, example(), history(), 7, months, all[:months])
	}
	// A loan that is in the portfolio, though at no month's end.
	profiles(t, example(), []api.Op{opened()}, 7, 24, strings.Repeat("-", 24))
	profiles(t, example(), []api.Op{opened()}, 7, 1, "-")
}

// 24.2: where more than 24 months are behind, the latest are told.
func TestProfileOfTheLatestMonths(t *testing.T) {
	ops := []api.Op{opened()}
	want := ""
	for range 40 {
		ops = append(ops, days(31))
	}
	// 2021-07-29 and 1240 days: 2024-12-20; charged off on 2022-01-07, told since January 2022.
	profiles(t, example(), ops, 7, 24, strings.Repeat("X", 24))
	ops = []api.Op{open(3, 120000, 0, 30, api.PlanLevel), days(31)}
	for range 25 {
		ops = append(ops, pay(3, 4000), days(30))
	}
	// Each row is paid ahead of its due day, or on it.
	for months := 1; months <= 24; months++ {
		want += "0"
		profiles(t, example(), ops, 3, months, want)
	}
}

// 24.2: a month is whole from the day behind its end on. (738002 is 2021-07-31, 738033 is 2021-08-31.)
func TestProfileOfWholeMonths(t *testing.T) {
	for _, c := range []struct {
		count int
		want  string
	}{{1, "---"}, {2, "---"}, {3, "0--"}, {33, "0--"}, {34, "10-"}, {63, "10-"}, {64, "210"}} {
		profiles(t, example(), append([]api.Op{opened()}, passing(c.count)...), 7, 3, c.want)
	}
}

// 24.2: what is done on a month's end still counts, however the days are passed; what is done on the day behind it does not.
func TestProfileOfTheEndOfADay(t *testing.T) {
	paid := pay(7, 120000)
	for _, c := range []struct {
		ops  []api.Op
		want string
	}{
		{[]api.Op{opened(), days(2), paid, days(1)}, "C-"},
		{[]api.Op{opened(), days(1), days(1), paid, days(1)}, "C-"},
		{[]api.Op{opened(), days(2), paid, days(60)}, "CC"},
		{[]api.Op{opened(), days(3), paid, days(1)}, "0-"},
		{[]api.Op{opened(), days(3), paid, days(31)}, "C0"},
		{[]api.Op{opened(), days(33), paid, days(1)}, "C0"},
		{[]api.Op{opened(), days(34), paid}, "10"},
		{[]api.Op{days(2), opened(), days(1)}, "0-"},
		{[]api.Op{days(3), opened(), days(1)}, "--"},
		{[]api.Op{days(33), opened(), days(1)}, "0-"},
		{[]api.Op{days(34), opened(), days(30)}, "0-"},
		{[]api.Op{opened(), days(42), days(21), promise(7, 5000, 9), days(1)}, "P1"},
		{[]api.Op{opened(), days(42), days(22), promise(7, 5000, 9), days(1)}, "21"},
		{[]api.Op{opened(), days(33), restructure(7, 12, 0), days(1)}, "10"},
		{[]api.Op{opened(), days(42), days(21), restructure(7, 12, 0), days(1)}, "01"},
		{[]api.Op{opened(), days(33), pay(7, 10000), days(1)}, "00"},
		{[]api.Op{opened(), days(33), pay(7, 10000), takeBack(7), days(1)}, "10"},
		{[]api.Op{opened(), days(33), pay(7, 9999), days(1)}, "10"},
	} {
		profiles(t, example(), c.ops, 7, 2, c.want)
	}
}

// 24.2: one day operation may go across the ends of two months, or of three in and behind a February.
func TestProfileAcrossSeveralEnds(t *testing.T) {
	// 737821 is 2021-01-31: behind it 28 days lead to the end of February, 31 more to that of March.
	for _, c := range []struct {
		start, count int
		want         string
	}{{737820, 1, "---"}, {737820, 2, "0--"}, {737821, 1, "0--"}, {737821, 28, "0--"}, {737821, 29, "00-"}, {737821, 59, "00-"}, {737821, 60, "200"}, {737820, 60, "00-"}} {
		profiles(t, from(c.start), append([]api.Op{open(7, 100, 0, 1, api.PlanEqual)}, passing(c.count)...), 7, 3, c.want)
	}
	// 2024 is a leap year: 738916 is 2024-01-31, 738945 is 2024-02-29.
	profiles(t, from(738916), []api.Op{opened(), days(29)}, 7, 2, "0-")
	profiles(t, from(738916), []api.Op{opened(), days(30)}, 7, 2, "00")
}

// 24.2: refused operations, and those of other kinds, count for nothing.
func TestProfileLeavesOut(t *testing.T) {
	noise := []api.Op{{}, {Kind: -1, Days: 5}, {Kind: api.OpTick, Days: 60}, {Kind: api.OpCrash, Count: 1}, {Kind: api.OpLoan, Loan: 7}, {Kind: api.OpToday}, {Kind: 22}, {Kind: most},
		days(0), days(-1), days(61), days(most), days(least), pay(8, 100), pay(7, 0), waive(8, 1), takeBack(7), refund(7, 1), opened(), restructure(7, 0, 0)}
	clean := []api.Op{opened(), days(33), days(9), promise(7, 500, 9), days(3), days(57)}
	var ops []api.Op
	for _, o := range clean {
		ops = slices.Concat(ops, []api.Op{o}, noise)
	}
	profiles(t, example(), clean, 7, 5, "3210-")
	profiles(t, example(), ops, 7, 5, "3210-")
	files(t, example(), ops, hOf())
}

// 24.2: the months ahead of the year 1, and the last ones of all.
func TestProfileAtTheEndsOfTime(t *testing.T) {
	profiles(t, from(1), []api.Op{opened()}, 7, 24, strings.Repeat("-", 24))
	profiles(t, from(1), []api.Op{opened(), days(30)}, 7, 3, "---")
	profiles(t, from(1), []api.Op{opened(), days(31)}, 7, 3, "0--")
	profiles(t, from(1), []api.Op{opened(), days(60)}, 7, 24, "10"+strings.Repeat("-", 22))
	profiles(t, from(31), []api.Op{opened(), days(1)}, 7, 2, "0-")
	// 3652059 is 9999-12-31, which no day is behind: December never is whole, and of its 31 days 30 may pass.
	last := open(7, 100, 0, 1, api.PlanEqual)
	profiles(t, from(api.MaxDay-60), []api.Op{last, days(60)}, 7, 3, "0--")
	profiles(t, from(api.MaxDay-60), []api.Op{last, days(60), days(1)}, 7, 3, "0--")
	profiles(t, from(api.MaxDay-61), []api.Op{last, days(60), days(1), days(1)}, 7, 3, "00-")
	profilesNot(t, from(api.MaxDay), []api.Op{last, days(1)}, 7, 1, api.ErrNoLoan)
}

// 24.2: each loan has its own letters.
func TestProfilesOfSeveralLoans(t *testing.T) {
	ops := []api.Op{opened(), days(5), open(3, 120000, 0, 12, api.PlanEqual), days(37), open(9, 5000, 0, 5, api.PlanEqual), pay(3, 120000), days(60)}
	profiles(t, example(), ops, 7, 5, "3210-")
	profiles(t, example(), ops, 3, 5, "CC0--")
	profiles(t, example(), ops, 9, 5, "10---")
}
