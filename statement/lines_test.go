package statement_test

import (
	"testing"

	"arrears/api"
)

// bare are the lines of a statement in which nothing moved.
func bare(from, to, columns string) []string {
	return []string{"FROM " + from + " TO " + to, "OPENING " + columns, "CLOSING " + columns}
}

// 22.4: every kind has its word, and no other number has one.
func TestLinesOfEachKind(t *testing.T) {
	for i, word := range []string{"open", "pay", "return", "refund", "waive", "promise", "restructure", "day"} {
		tells(t, []api.Movement{move(3, i+1, api.Fees, 5)}, 2, 4,
			"FROM 0001-01-02 TO 0001-01-04",
			"OPENING 0.00 0.00 0.00 0.00",
			"0001-01-03 "+word+" 0.00 0.00 +0.05 0.00",
			"CLOSING 0.00 0.00 0.05 0.00")
	}
	for _, kind := range []int{least, -1, 0, 9, 10, 15, 21, 256 + 1, 1<<32 + 1, most} {
		list := []api.Movement{move(3, kind, api.Fees, 5)}
		tellsNone(t, list, 3, 3)
		tellsNone(t, list, 1, 9)
		tellsNone(t, append([]api.Movement{move(3, 2)}, list...), 3, 9)
		// A movement of another day has no word to be told.
		tells(t, list, 1, 2, bare("0001-01-01", "0001-01-02", "0.00 0.00 0.00 0.00")...)
		tells(t, list, 4, 9, bare("0001-01-04", "0001-01-09", "0.00 0.00 0.05 0.00")...)
	}
}

// 22.4: four accounts have a column each, Unapplied with its sign turned; the others have none.
func TestLinesOfEachAccount(t *testing.T) {
	above := map[int64]string{
		api.Principal: "1.07 0.00 0.00 0.00",
		api.Interest:  "0.00 1.07 0.00 0.00",
		api.Fees:      "0.00 0.00 1.07 0.00",
		api.Unapplied: "0.00 0.00 0.00 -1.07",
	}
	below := map[int64]string{
		api.Principal: "-1.07 0.00 0.00 0.00",
		api.Interest:  "0.00 -1.07 0.00 0.00",
		api.Fees:      "0.00 0.00 -1.07 0.00",
		api.Unapplied: "0.00 0.00 0.00 1.07",
	}
	signs := map[int64]string{
		api.Principal: "+1.07 0.00 0.00 0.00",
		api.Interest:  "0.00 +1.07 0.00 0.00",
		api.Fees:      "0.00 0.00 +1.07 0.00",
		api.Unapplied: "0.00 0.00 0.00 +1.07",
	}
	const none = "0.00 0.00 0.00 0.00"
	text := func(m map[int64]string, account int64) string {
		if s, ok := m[account]; ok {
			return s
		}
		return none
	}
	for account := range int64(api.Accounts) {
		up, down := []api.Movement{move(3, 1, account, 107)}, []api.Movement{move(3, 1, account, -107)}
		rise, fall := text(signs, account), text(below, account)
		if account == api.Unapplied {
			rise, fall = text(above, account), text(signs, account)
		}
		tells(t, up, 3, 3, "FROM 0001-01-03 TO 0001-01-03", "OPENING "+none, "0001-01-03 open "+rise, "CLOSING "+text(above, account))
		tells(t, up, 4, 4, bare("0001-01-04", "0001-01-04", text(above, account))...)
		tells(t, down, 3, 3, "FROM 0001-01-03 TO 0001-01-03", "OPENING "+none, "0001-01-03 open "+fall, "CLOSING "+text(below, account))
		tells(t, down, 4, 4, bare("0001-01-04", "0001-01-04", text(below, account))...)
	}
}

// 22.4: all four columns at once, of the opening, of each movement and of the closing; movements in the order of the list.
func TestLinesOfMany(t *testing.T) {
	list := []api.Movement{
		move(8, 8, api.Principal, 100, api.Interest, 20, api.Fees, 3, api.Unapplied, -45678),
		move(9, 3, api.Principal, -1, api.Interest, -1234567, api.Fees, 0, api.Unapplied, 5678),
		move(8, 2, api.Principal, 0, api.Interest, 99, api.Fees, -100, api.Unapplied, 0),
		move(5, 1, api.Principal, 1, api.Interest, 2, api.Fees, 3, api.Unapplied, -4),
		move(-7, 77, api.Principal, 1000),
		move(10, 2, api.Principal, 5555),
	}
	tells(t, list, 8, 9,
		"FROM 0001-01-08 TO 0001-01-09",
		"OPENING 10.01 0.02 0.03 0.04",
		"0001-01-08 day +1.00 +0.20 +0.03 +456.78",
		"0001-01-09 return -0.01 -12345.67 0.00 -56.78",
		"0001-01-08 pay 0.00 +0.99 -1.00 0.00",
		"CLOSING 11.00 -12344.46 -0.94 400.04")
	tells(t, list, 6, 7, bare("0001-01-06", "0001-01-07", "10.01 0.02 0.03 0.04")...)
}

// 22.4: from and to must be days, the first not above the last.
func TestLinesOfDays(t *testing.T) {
	const none = "0.00 0.00 0.00 0.00"
	tells(t, nil, 1, api.MaxDay, bare("0001-01-01", "9999-12-31", none)...)
	tells(t, nil, api.MaxDay, api.MaxDay, bare("9999-12-31", "9999-12-31", none)...)
	tells(t, nil, 730179, 730180, bare("2000-02-29", "2000-03-01", none)...)
	tells(t, []api.Movement{}, 5, 5, bare("0001-01-05", "0001-01-05", none)...)
	for _, c := range [][2]int{
		{2, 1}, {api.MaxDay, 1}, {api.MaxDay, api.MaxDay - 1}, {0, 0}, {0, 1}, {-1, 5}, {least, 5}, {1, 0}, {5, -1}, {5, least},
		{1, api.MaxDay + 1}, {api.MaxDay + 1, api.MaxDay + 1}, {api.MaxDay + 1, 5}, {most, most}, {least, least}, {least, most}, {most, least}, {1, most},
	} {
		tellsNone(t, nil, c[0], c[1])
		tellsNone(t, these(), c[0], c[1])
	}
	// At the ends of the days movements are told as everywhere; those of no day stand in the books alone.
	list := []api.Movement{move(0, 0, api.Fees, 1), move(1, 1, api.Fees, 2), move(api.MaxDay, 2, api.Fees, 3), move(api.MaxDay+1, 0, api.Fees, 4)}
	tells(t, list, 1, api.MaxDay,
		"FROM 0001-01-01 TO 9999-12-31",
		"OPENING 0.00 0.00 0.01 0.00",
		"0001-01-01 open 0.00 0.00 +0.02 0.00",
		"9999-12-31 pay 0.00 0.00 +0.03 0.00",
		"CLOSING 0.00 0.00 0.06 0.00")
}

// 22.4: the greatest amounts are told.
func TestLinesAtTheEnds(t *testing.T) {
	const high, low = "92233720368547758.07", "-92233720368547758.08"
	all := []api.Movement{move(5, 1, api.Principal, most, api.Interest, most, api.Fees, most, api.Unapplied, -most)}
	tells(t, all, 5, 5,
		"FROM 0001-01-05 TO 0001-01-05",
		"OPENING 0.00 0.00 0.00 0.00",
		"0001-01-05 open +"+high+" +"+high+" +"+high+" +"+high,
		"CLOSING "+high+" "+high+" "+high+" "+high)
	all = []api.Movement{move(5, 1, api.Principal, least, api.Interest, least, api.Fees, least, api.Unapplied, most)}
	tells(t, all, 5, 5,
		"FROM 0001-01-05 TO 0001-01-05",
		"OPENING 0.00 0.00 0.00 0.00",
		"0001-01-05 open "+low+" "+low+" "+low+" -"+high,
		"CLOSING "+low+" "+low+" "+low+" -"+high)
	// Accounts without a column may stand anywhere.
	for _, account := range []int64{0, 5, 6, 7, 8, 9, 10, 11} {
		tells(t, []api.Movement{move(5, 1, account, least)}, 6, 6, bare("0001-01-06", "0001-01-06", "0.00 0.00 0.00 0.00")...)
	}
}

// 22.4: false where a book's sum does not fit: ahead of the days, or behind them; not where it does so between them, or later.
func TestLinesOfBooksThatDoNotFit(t *testing.T) {
	for account := range int64(api.Accounts) {
		for _, sign := range []int64{1, -1} {
			// Beyond the end on the days 3 and 4, within it on all others.
			list := []api.Movement{move(2, 1, account, most*sign), move(3, 2, account, 2*sign), move(5, 3, account, -2*sign)}
			for from := 1; from <= 7; from++ {
				for to := from; to <= 7; to++ {
					if out := func(day int) bool { return day == 3 || day == 4 }; out(from-1) || out(to) {
						tellsNone(t, list, from, to)
					} else {
						tells(t, list, from, to, linesOf(list, from, to)...)
					}
				}
			}
		}
	}
}

// 22.4: false where a column does not fit: Unapplied at the least number, in a book or in a change.
func TestLinesOfColumnsThatDoNotFit(t *testing.T) {
	// A change that does not fit, though both books do.
	change := []api.Movement{move(3, 1, api.Unapplied, 5), move(5, 2, api.Unapplied, least)}
	tellsNone(t, change, 5, 5)
	tellsNone(t, change, 1, 9)
	tells(t, change, 1, 2, bare("0001-01-01", "0001-01-02", "0.00 0.00 0.00 0.00")...)
	tells(t, change, 4, 4, bare("0001-01-04", "0001-01-04", "0.00 0.00 0.00 -0.05")...)
	tells(t, change, 6, 6, bare("0001-01-06", "0001-01-06", "0.00 0.00 0.00 92233720368547758.03")...)

	// A book that does not fit, though all changes do: on the days 5 and 6.
	books := []api.Movement{move(4, 1, api.Unapplied, least+1), move(5, 2, api.Unapplied, -1), move(7, 3, api.Unapplied, 1)}
	for from := 1; from <= 9; from++ {
		for to := from; to <= 9; to++ {
			if out := func(day int) bool { return day == 5 || day == 6 }; out(from-1) || out(to) {
				tellsNone(t, books, from, to)
			} else {
				tells(t, books, from, to, linesOf(books, from, to)...)
			}
		}
	}
}
