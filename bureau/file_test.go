package bureau_test

import (
	"fmt"
	"strings"
	"testing"

	"arrears/api"
)

// 24.3: what is refused, and in which order.
func TestFileRefuses(t *testing.T) {
	for _, p := range refused() {
		for _, ops := range [][]api.Op{nil, {opened()}, history()} {
			filesNot(t, p, ops, api.ErrPolicy)
		}
	}
	// 738002 is 2021-07-31, 738033 is 2021-08-31.
	for _, c := range []struct{ start, count int }{{first, 0}, {first, 1}, {first, 2}, {first + 2, 0}, {first + 3, 0}, {first + 3, 1}, {first + 3, 30}, {first + 33, 0}} {
		ops := []api.Op{opened()}
		if c.count > 0 {
			ops = append(ops, days(c.count))
		}
		filesNot(t, from(c.start), ops, api.ErrDate)
	}
	// Ahead of the first month of all there is none.
	for _, c := range []struct{ start, count int }{{1, 1}, {1, 30}, {2, 1}, {31, 0}, {32, 27}} {
		filesNot(t, from(c.start), []api.Op{opened(), days(c.count)}, api.ErrDate)
	}
	// Of the last month of all there is no file: no day is behind it.
	filesNot(t, from(api.MaxDay), []api.Op{opened(), days(1)}, api.ErrDate)
	filesNot(t, from(api.MaxDay-30), []api.Op{opened(), days(30), days(1)}, api.ErrDate)
}

// 24.3: the last whole month's end, at the ends of months and of time.
func TestFileOfTheLastWholeMonth(t *testing.T) {
	for _, c := range []struct {
		start, count int
		date         string
	}{
		{first, 3, "2021-07-31"}, {first, 33, "2021-07-31"}, {first, 34, "2021-08-31"}, {first, 60, "2021-08-31"},
		{first + 2, 1, "2021-07-31"}, {first + 2, 31, "2021-07-31"}, {first + 2, 32, "2021-08-31"}, {first + 3, 31, "2021-08-31"},
		{738916, 1, "2024-01-31"}, {738916, 29, "2024-01-31"}, {738916, 30, "2024-02-29"}, {738916, 60, "2024-02-29"},
		{737820, 60, "2021-02-28"}, {737821, 60, "2021-03-31"},
		{1, 31, "0001-01-31"}, {1, 59, "0001-02-28"}, {31, 1, "0001-01-31"}, {31, 28, "0001-01-31"}, {31, 29, "0001-02-28"},
		{api.MaxDay - 31, 1, "9999-11-30"}, {api.MaxDay - 31, 31, "9999-11-30"}, {api.MaxDay - 60, 60, "9999-11-30"}, {api.MaxDay - 60, 29, ""},
	} {
		if c.date == "" {
			filesNot(t, from(c.start), []api.Op{days(c.count)}, api.ErrDate)
			continue
		}
		files(t, from(c.start), []api.Op{days(c.count)}, file("BUREAU "+c.date+" 0", "TOTAL 0.00 0.00"))
	}
}

// 24.3: what stands in a loan's line, in every status.
func TestFileLines(t *testing.T) {
	for _, c := range []struct {
		ops                  []api.Op
		date, line, owed, of string
	}{
		{[]api.Op{opened(), days(3)}, "2021-07-31", "7 0 1200.00 0.00 0-----------", "1200.00", "0.00"},
		{[]api.Op{opened(), days(34)}, "2021-08-31", "7 1 1200.00 100.00 10----------", "1200.00", "100.00"},
		{[]api.Op{opened(), days(2), pay(7, 2550), days(1)}, "2021-07-31", "7 0 1174.50 0.00 0-----------", "1174.50", "0.00"},
		{[]api.Op{opened(), days(2), pay(7, 120000), days(1)}, "2021-07-31", "7 C 0.00 0.00 C-----------", "0.00", "0.00"},
		// What is held for the borrower is not owed.
		{[]api.Op{opened(), days(2), pay(7, 120001), days(1)}, "2021-07-31", "7 C 0.00 0.00 C-----------", "0.00", "0.00"},
		{[]api.Op{opened(), days(42), days(21), promise(7, 5000, 9), days(1)}, "2021-09-30", "7 P 1215.00 200.00 P10---------", "1215.00", "200.00"},
		{[]api.Op{opened(), days(42), days(21), waive(7, 1), days(1)}, "2021-09-30", "7 2 1214.99 200.00 210---------", "1214.99", "200.00"},
		// Charged off on 2022-01-07.
		{append([]api.Op{opened()}, passing(187)...), "2022-01-31", "7 X 0.00 0.00 X443210-----", "0.00", "0.00"},
		{append([]api.Op{opened()}, passing(600)...), "2023-02-28", "7 X 0.00 0.00 XXXXXXXXXXXX", "0.00", "0.00"},
		// At 100 % a year 366.00 earn 1.00 a day.
		{[]api.Op{open(7, 36600, 10000, 1, api.PlanEqual), days(3)}, "2021-07-31", "7 0 368.00 0.00 0-----------", "368.00", "0.00"},
	} {
		files(t, example(), c.ops, file("BUREAU "+c.date+" 1", c.line, "TOTAL "+c.owed+" "+c.of))
	}
}

// 24.3: the loans that are there at the end, by rising number; what was done behind it counts for nothing.
func TestFileOfSeveralLoans(t *testing.T) {
	ops := []api.Op{open(9, 5000, 0, 5, api.PlanEqual), opened(), days(31), open(999999, 700, 0, 1, api.PlanBalloon), days(2), open(1, 100, 0, 1, api.PlanEqual), days(1), open(2, 100, 0, 1, api.PlanEqual), pay(9, 5000), days(3), pay(7, 10000)}
	files(t, example(), ops, file("BUREAU 2021-08-31 4", "1 0 1.00 0.00 0-----------", "7 1 1200.00 100.00 10----------", "9 1 50.00 10.00 10----------", "999999 0 7.00 0.00 0-----------", "TOTAL 1258.00 110.00"))
}

// 24.3: as many loans as there may be, of the greatest principals.
func TestFileOfAllLoans(t *testing.T) {
	var ops []api.Op
	lines := []string{"BUREAU 2021-07-31 32"}
	for i := range api.MaxLoans {
		ops = append(ops, open(api.MaxLoans-i, api.MaxPrincipal, 0, 1, api.PlanEqual))
		lines = append(lines, fmt.Sprintf("%d 0 100000000000.00 0.00 0-----------", i+1))
	}
	ops = append(ops, open(33, 100, 0, 1, api.PlanEqual), days(3))
	files(t, example(), ops, file(append(lines, "TOTAL 3200000000000.00 0.00")...))
}

// 24.3: a profile in a file has twelve months, also where more are behind.
func TestFileProfiles(t *testing.T) {
	ops := append([]api.Op{opened()}, passing(700)...)
	for count := 1; count <= len(ops); count++ {
		told := strings.Split(fileOf(t, example(), ops[:count]), "\n")
		if len(told) < 3 {
			continue
		}
		profiles(t, example(), ops[:count], 7, 12, told[1][strings.LastIndex(told[1], " ")+1:])
	}
}
