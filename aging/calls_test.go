package aging_test

import (
	"testing"

	"arrears/aging"
	"arrears/api"
)

// strangeDays are ints that are no day.
var strangeDays = []int{0, -1, -100, least, least + 1, api.MaxDay + 1, 1 << 32, -1 << 32, most - 1, most}

// 10.2, 10.3: the last row waits while anything is owed, however much was paid.
func TestLastRowWaits(t *testing.T) {
	for _, rest := range []int64{1, 5, 300, most} {
		for _, applied := range []int64{300, 301, 1000, most} {
			satisfies(t, threeRows(), at(applied, rest), 2)
			satisfies(t, rows(row(5, 0, 1)), at(applied, rest), 0)
			satisfies(t, rows(row(5, 0, 0)), at(applied, rest), 0)
		}
	}
}

// 10.2, 10.3: where nothing is owed any more, all rows are satisfied, however little was paid.
func TestNothingOwed(t *testing.T) {
	for _, rest := range []int64{0, -1, -300, least} {
		for _, applied := range []int64{least, -1, 0, 100, 300, most} {
			satisfies(t, threeRows(), at(applied, rest), 3)
			isLate(t, threeRows(), at(applied, rest), 500, 0)
			isDue(t, threeRows(), at(applied, rest), 500, 0)
			misses(t, threeRows(), at(applied, rest), 500, 0)
			reaches(t, threeRows(), at(applied, rest), 90, 1, 0, false)
		}
	}
}

// 10.2: rows of nothing are satisfied with the row ahead of them, the last one not.
func TestRowsOfNothing(t *testing.T) {
	plan := rows(row(5, 0, 0), row(6, 0, 1), row(7, 0, 0), row(8, 1, 0), row(9, 0, 0), row(10, 0, 0))
	for _, c := range []struct {
		applied int64
		want    int
	}{{-1, 1}, {0, 1}, {1, 3}, {2, 5}, {3, 5}} {
		satisfies(t, plan, at(c.applied, 1), c.want)
	}
	satisfies(t, plan, at(0, 0), 6)
}

// 10.2, 10.5: what is applied below 0 counts as 0.
func TestAppliedBelowZero(t *testing.T) {
	for _, applied := range []int64{-1, -100, -most, least} {
		satisfies(t, threeRows(), at(applied, 300), 0)
		isLate(t, threeRows(), at(applied, 300), 131, 31)
		isDue(t, threeRows(), at(applied, 300), 131, 200)
		misses(t, threeRows(), at(applied, 300), 131, 0, 0, 1)
		reaches(t, threeRows(), at(applied, 300), 90, 1, 101, true)
		isDue(t, rows(row(1, most, 0), row(2, 0, 0)), at(applied, most), 2, most)
	}
}

// 10.2, 10.5: interest counts with the principal part.
func TestBothPartsCount(t *testing.T) {
	plan := rows(row(10, 7, 0), row(20, 0, 5), row(30, 2, 3))
	for applied, want := range []int{0, 0, 0, 0, 0, 0, 0, 1, 1, 1, 1, 1, 2, 2, 2, 2, 2, 2} {
		satisfies(t, plan, at(int64(applied), 100), want)
	}
	isDue(t, plan, at(0, 100), 11, 7)
	isDue(t, plan, at(0, 100), 21, 12)
	isDue(t, plan, at(6, 100), 11, 1)
	isDue(t, plan, at(9, 100), 21, 3)
}

// 10.4: a row is late from the day behind its due day on; any int may be today.
func TestDaysOfAnyToday(t *testing.T) {
	for _, due := range []int{1, 2, 100, api.MaxDay} {
		for _, plan := range [][]api.Instalment{rows(row(due, 1, 1)), rows(row(due, 0, 0))} {
			isLate(t, plan, at(0, 2), due-1, 0)
			isLate(t, plan, at(0, 2), due, 0)
			isLate(t, plan, at(0, 2), due+1, 1)
			isLate(t, plan, at(0, 2), due+90, 90)
			isLate(t, plan, at(0, 2), most, most-due)
			isLate(t, plan, at(0, 2), least, 0)
			isLate(t, plan, at(0, 2), least+1, 0)
			isLate(t, plan, at(0, 2), -1, 0)
			isLate(t, plan, at(0, 2), 0, 0)
		}
	}
}

// 10.4: only the oldest row that is not satisfied counts.
func TestDaysOfTheOldest(t *testing.T) {
	for _, c := range []struct {
		applied int64
		today   int
		want    int
	}{{99, 300, 200}, {100, 300, 170}, {199, 300, 170}, {200, 300, 140}, {299, 300, 140}, {300, 300, 140}, {200, 160, 0}, {100, 130, 0}} {
		isLate(t, threeRows(), at(c.applied, 1), c.today, c.want)
	}
}

// 10.5: below 0 is 0, above Rest is Rest; once the last row is past due it is Rest whatever was paid.
func TestPastDueWithinRest(t *testing.T) {
	plan := threeRows()
	isDue(t, plan, at(100, 200), 130, 0)
	isDue(t, plan, at(101, 199), 101, 0)
	isDue(t, plan, at(most, 1), 160, 0)
	isDue(t, plan, at(199, 101), 160, 1)
	isDue(t, plan, at(200, 101), 160, 0)
	isDue(t, plan, at(0, 199), 131, 199)
	isDue(t, plan, at(0, 200), 131, 200)
	isDue(t, plan, at(0, 201), 131, 200)
	isDue(t, plan, at(0, 1), 101, 1)
	for _, applied := range []int64{least, -1, 0, 200, 300, 301, most} {
		for _, rest := range []int64{1, 5, 300, 320, most} {
			isDue(t, plan, at(applied, rest), 161, rest)
			isDue(t, plan, at(applied, rest), most, rest)
			isDue(t, plan, at(applied, rest), 100, 0)
			isDue(t, plan, at(applied, rest), least, 0)
		}
	}
}

// 10.5: amounts that come just to the greatest int64.
func TestPastDueOfTheGreatest(t *testing.T) {
	plan := rows(row(10, most-10, 3), row(20, 2, 4), row(30, 1, 0))
	isDue(t, plan, at(0, most), 11, most-7)
	isDue(t, plan, at(0, most), 21, most-1)
	isDue(t, plan, at(0, most), 31, most)
	isDue(t, plan, at(most-7, most), 21, 6)
	isDue(t, plan, at(most, most), 21, 0)
	satisfies(t, plan, at(most-8, 1), 0)
	satisfies(t, plan, at(most-7, 1), 1)
	satisfies(t, plan, at(most-2, 1), 1)
	satisfies(t, plan, at(most-1, 1), 2)
}

// 10.6: the classes at their edges and far out.
func TestBucket(t *testing.T) {
	for bucket, edges := range [][]int{
		{least, least + 1, -1 << 32, -90, -30, -1, 0},
		{1, 2, 28, 29},
		{30, 31, 58, 59},
		{60, 61, 88, 89},
		{90, 91, 119, 120, 1000, api.MaxDay, 1 << 32, most},
	} {
		for _, days := range edges {
			falls(t, days, bucket)
		}
	}
}

// 10.7: a row is missed from the day on which it is more days late than the grace.
func TestMissedAtTheEdges(t *testing.T) {
	plan := threeRows()
	for _, grace := range []int{0, 1, 5, 29} {
		misses(t, plan, at(0, 300), 100+grace, grace)
		misses(t, plan, at(0, 300), 101+grace, grace, 0)
		misses(t, plan, at(0, 300), 130+grace, grace, 0)
		misses(t, plan, at(0, 300), 131+grace, grace, 0, 1)
		misses(t, plan, at(0, 300), 161+grace, grace, 0, 1, 2)
		misses(t, plan, at(100, 200), 161+grace, grace, 1, 2)
		misses(t, plan, at(300, 1), 161+grace, grace, 2)
	}
}

// 10.7: a grace below 0 counts as 0, and any ints may be grace and today.
func TestMissedOfAnyGrace(t *testing.T) {
	plan := threeRows()
	for _, grace := range []int{-1, -100, -most, least} {
		misses(t, plan, at(0, 300), 100, grace)
		misses(t, plan, at(0, 300), 101, grace, 0)
		misses(t, plan, at(0, 300), least, grace)
		misses(t, plan, at(0, 300), most, grace, 0, 1, 2)
	}
	misses(t, plan, at(0, 300), most, most)
	misses(t, plan, at(0, 300), most, most-100)
	misses(t, plan, at(0, 300), most, most-101, 0)
	misses(t, plan, at(0, 300), most, most-131, 0, 1)
	misses(t, plan, at(0, 300), least, most)
}

// 10.7: rows that are marked are left out, wherever they stand; the mark changes nothing else.
func TestMissedLeavesMarked(t *testing.T) {
	for choice := range 8 {
		var numbers, want []int
		for i := range 3 {
			if choice>>i&1 == 1 {
				numbers = append(numbers, i)
			} else {
				want = append(want, i)
			}
		}
		plan := aging.Mark(threeRows(), numbers)
		misses(t, plan, at(0, 300), 300, 5, want...)
		satisfies(t, plan, at(100, 200), 1)
		isLate(t, plan, at(100, 200), 300, 170)
		isDue(t, plan, at(100, 200), 131, 100)
		reaches(t, plan, at(100, 200), 90, 1, 131, true)
	}
}

// 10.8: any plan may be marked, by any numbers; what was marked stays so.
func TestMark(t *testing.T) {
	marked := func(r api.Instalment) api.Instalment {
		r.Marked = true
		return r
	}
	unsound := rows(row(5, -1, least), marked(row(5, most, most)), row(-3, 0, 7), row(most, 1, 1))
	for _, plan := range [][]api.Instalment{threeRows(), unsound} {
		marks(t, plan, nil, plan...)
		marks(t, plan, []int{}, plan...)
		marks(t, plan, []int{-1, len(plan), len(plan) + 1, least, most, 1 << 32, -1 << 32}, plan...)
		marks(t, plan, []int{0}, append(rows(marked(plan[0])), plan[1:]...)...)
		marks(t, plan, []int{2, 1, 2, 2}, append(rows(plan[0], marked(plan[1]), marked(plan[2])), plan[3:]...)...)
		last := len(plan) - 1
		marks(t, plan, []int{len(plan), last}, append(append(rows(), plan[:last]...), marked(plan[last]))...)
	}
	all := aging.Mark(threeRows(), []int{0, 1, 2})
	marks(t, all, nil, all...)
	marks(t, all, []int{1}, all...)
	marks(t, nil, []int{0, -1})
	marks(t, rows(), nil)
}

// 10.9: the edges of today and of days; the day may lie above MaxDay.
func TestReachRefuses(t *testing.T) {
	plan, owed := threeRows(), at(0, 300)
	for _, no := range strangeDays {
		if no != 0 {
			reaches(t, plan, owed, no, 1, 0, false)
			reaches(t, plan, owed, no, api.MaxDay, 0, false)
		}
		reaches(t, plan, owed, 90, no, 0, false)
		reaches(t, plan, owed, no, no, 0, false)
	}
	reaches(t, plan, owed, 0, 1, 101, true)
	reaches(t, plan, owed, 0, api.MaxDay, api.MaxDay+100, true)
	reaches(t, plan, owed, api.MaxDay, 1, api.MaxDay+1, true)
	reaches(t, plan, owed, api.MaxDay, api.MaxDay, api.MaxDay+100, true)
	reaches(t, rows(row(api.MaxDay, 0, 1)), at(0, 1), api.MaxDay, api.MaxDay, 2*api.MaxDay, true)
	reaches(t, rows(row(1, 0, 1)), at(0, 1), 0, 1, 2, true)
}

// 10.9: ahead of the day, just ahead of it, on it and behind it.
func TestReachFromAround(t *testing.T) {
	for _, days := range []int{1, 30, 90} {
		first := 130 + days
		for today := first - 3; today < first+4; today++ {
			reaches(t, threeRows(), at(100, 200), today, days, max(first, today+1), true)
		}
	}
}

// 10.2 to 10.9: of a plan without rows.
func TestNoRows(t *testing.T) {
	for _, plan := range [][]api.Instalment{nil, {}} {
		for _, pos := range []api.Position{at(0, 5), at(5, 0), at(least, most), at(0, -1), {}} {
			satisfies(t, plan, pos, 0)
			for _, today := range append([]int{1, 500}, strangeDays...) {
				isLate(t, plan, pos, today, 0)
				isDue(t, plan, pos, today, 0)
				misses(t, plan, pos, today, 0)
				reaches(t, plan, pos, today, 1, 0, false)
			}
		}
	}
}
