package aging_test

import (
	"testing"

	"arrears/aging"
	"arrears/api"
)

// asOfNoRows holds every call but Mark and Bucket to what it answers of a plan without rows.
func asOfNoRows(t *testing.T, plan []api.Instalment) {
	t.Helper()
	for _, pos := range []api.Position{at(0, 5), at(5, 5), at(most, 1), at(0, 0), at(0, -1), at(least, most)} {
		if got := aging.Satisfied(plan, pos); got != 0 {
			t.Errorf("10.2: Satisfied(%v, %v) = %d: the plan is not sound", plan, pos, got)
		}
		oldest(t, plan, pos, 0, false)
		for _, today := range []int{least, 0, 1, 6, 500, api.MaxDay + 9, most} {
			isLate(t, plan, pos, today, 0)
			isDue(t, plan, pos, today, 0)
			misses(t, plan, pos, today, 0)
			reaches(t, plan, pos, today, 1, 0, false)
		}
	}
}

// isSound holds a plan that would be late to being heard.
func isSound(t *testing.T, plan []api.Instalment) {
	t.Helper()
	satisfies(t, plan, at(0, 0), len(plan))
	isDue(t, plan, at(0, 5), most, 5)
	if _, ok := aging.Oldest(plan, at(0, 5)); !ok {
		t.Errorf("10.3: Oldest of %v: the plan is sound", plan)
	}
}

// spoilt are plans of three rows with this row in the first, the second and the last place.
func spoilt(bad api.Instalment) [][]api.Instalment {
	var plans [][]api.Instalment
	for i := range 3 {
		plan := threeRows()
		plan[i] = bad
		plans = append(plans, plan)
	}
	return plans
}

// Words: a due day is from 1 to MaxDay, in every row.
func TestDueOutside(t *testing.T) {
	for _, due := range strangeDays {
		asOfNoRows(t, rows(row(due, 10, 90)))
		for _, plan := range spoilt(row(due, 10, 90)) {
			asOfNoRows(t, plan)
		}
	}
	isSound(t, rows(row(1, 10, 90)))
	isSound(t, rows(row(api.MaxDay, 10, 90)))
	isSound(t, rows(row(1, 10, 90), row(2, 10, 90), row(api.MaxDay-1, 10, 90), row(api.MaxDay, 10, 90)))
}

// Words: the due days rise, from each row to the next.
func TestDueNotRising(t *testing.T) {
	asOfNoRows(t, rows(row(100, 10, 90), row(100, 10, 90)))
	asOfNoRows(t, rows(row(100, 10, 90), row(99, 10, 90)))
	asOfNoRows(t, rows(row(100, 10, 90), row(130, 10, 90), row(130, 10, 90)))
	asOfNoRows(t, rows(row(100, 10, 90), row(130, 10, 90), row(129, 10, 90)))
	asOfNoRows(t, rows(row(100, 10, 90), row(130, 10, 90), row(100, 10, 90)))
	asOfNoRows(t, rows(row(100, 0, 0), row(100, 0, 0), row(160, 0, 0)))
	isSound(t, rows(row(100, 10, 90), row(101, 10, 90), row(102, 10, 90)))
}

// Words: neither part of any row is below 0, though the row's amount is not.
func TestPartBelowZero(t *testing.T) {
	for _, below := range []int64{-1, -90, -most, least} {
		for number := range 3 {
			for _, other := range []int64{0, 1, 90, most} {
				plan := threeRows()
				plan[number].Interest, plan[number].Principal = below, other
				asOfNoRows(t, plan)
				plan[number].Interest, plan[number].Principal = other, below
				asOfNoRows(t, plan)
			}
		}
	}
	isSound(t, rows(row(100, 0, 90), row(130, 10, 0), row(160, 0, 0)))
}

// Words: all parts of all rows come to no more than the greatest int64, wherever the last cent stands.
func TestSumBeyond(t *testing.T) {
	for _, plan := range [][]api.Instalment{
		rows(row(5, most, 0)),
		rows(row(5, 0, most)),
		rows(row(5, most-1, 1)),
		rows(row(5, 1<<62, 1<<62-1), row(6, 0, 0)),
		rows(row(5, 1, 2), row(6, 3, 4), row(7, 5, most-15)),
		rows(row(5, 0, 0), row(6, most, 0), row(7, 0, 0)),
	} {
		isSound(t, plan)
		for i := range plan {
			more := append(rows(), plan...)
			if more[i].Interest < most {
				more[i].Interest++
				asOfNoRows(t, more)
				more[i].Interest--
			}
			if more[i].Principal < most {
				more[i].Principal++
				asOfNoRows(t, more)
			}
		}
	}
	asOfNoRows(t, rows(row(5, most, most), row(6, 2, 0)))
	asOfNoRows(t, rows(row(5, most, 0), row(6, most, 0), row(7, 2, 5)))
	asOfNoRows(t, rows(row(5, 1, 1), row(6, 1, 1), row(7, most, most)))
}

// Words: a sum that comes back once a part below 0 is added is still no sound plan.
func TestSumComesBack(t *testing.T) {
	asOfNoRows(t, rows(row(5, most, 0), row(6, 1, -1)))
	asOfNoRows(t, rows(row(5, most, 1), row(6, 0, -1)))
	asOfNoRows(t, rows(row(5, least, most), row(6, 1, 7)))
}

// Words: what is wrong only in the last of many rows is found.
func TestFaultAtTheEnd(t *testing.T) {
	var plan []api.Instalment
	for i := range 1000 {
		plan = append(plan, row(i*30+1, 10, 90))
	}
	isSound(t, plan)
	last := plan[999]
	for _, bad := range []api.Instalment{row(999*30-29, 10, 90), row(last.Due, -1, 90), row(last.Due, 10, -1), row(last.Due, most, 0), row(api.MaxDay+1, 10, 90)} {
		plan[999] = bad
		asOfNoRows(t, plan)
	}
	plan[999] = last
	isSound(t, plan)
}
