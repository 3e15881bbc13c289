package aging_test

import (
	"math"
	"slices"
	"testing"

	"arrears/aging"
	"arrears/api"
)

const most, least = math.MaxInt64, math.MinInt64

func row(due int, interest, principal int64) api.Instalment {
	return api.Instalment{Due: due, Interest: interest, Principal: principal}
}

func rows(list ...api.Instalment) []api.Instalment { return list }

func at(applied, rest int64) api.Position { return api.Position{Applied: applied, Rest: rest} }

// threeRows is the plan of the chapter's examples.
func threeRows() []api.Instalment { return rows(row(100, 10, 90), row(130, 10, 90), row(160, 10, 90)) }

// satisfies holds Satisfied to a number, and Oldest to what follows from it.
func satisfies(t *testing.T, plan []api.Instalment, pos api.Position, want int) {
	t.Helper()
	if got := aging.Satisfied(plan, pos); got != want {
		t.Errorf("10.2: Satisfied(%v, %v) = %d, want %d", plan, pos, got, want)
	}
	if want < len(plan) {
		oldest(t, plan, pos, want, true)
	} else {
		oldest(t, plan, pos, 0, false)
	}
}

func oldest(t *testing.T, plan []api.Instalment, pos api.Position, want int, found bool) {
	t.Helper()
	if got, ok := aging.Oldest(plan, pos); got != want || ok != found {
		t.Errorf("10.3: Oldest(%v, %v) = %d, %v, want %d, %v", plan, pos, got, ok, want, found)
	}
}

func isLate(t *testing.T, plan []api.Instalment, pos api.Position, today, want int) {
	t.Helper()
	if got := aging.Days(plan, pos, today); got != want {
		t.Errorf("10.4: Days(%v, %v, %d) = %d, want %d", plan, pos, today, got, want)
	}
}

func isDue(t *testing.T, plan []api.Instalment, pos api.Position, today int, want int64) {
	t.Helper()
	if got := aging.PastDue(plan, pos, today); got != want {
		t.Errorf("10.5: PastDue(%v, %v, %d) = %d, want %d", plan, pos, today, got, want)
	}
}

func falls(t *testing.T, days, want int) {
	t.Helper()
	if got := aging.Bucket(days); got != want {
		t.Errorf("10.6: Bucket(%d) = %d, want %d", days, got, want)
	}
}

func misses(t *testing.T, plan []api.Instalment, pos api.Position, today, grace int, want ...int) {
	t.Helper()
	if got := aging.Missed(plan, pos, today, grace); !slices.Equal(got, want) {
		t.Errorf("10.7: Missed(%v, %v, %d, %d) = %v, want %v", plan, pos, today, grace, got, want)
	}
}

func marks(t *testing.T, plan []api.Instalment, numbers []int, want ...api.Instalment) {
	t.Helper()
	if got := aging.Mark(plan, numbers); !slices.Equal(got, want) {
		t.Errorf("10.8: Mark(%v, %v) = %v, want %v", plan, numbers, got, want)
	}
}

func reaches(t *testing.T, plan []api.Instalment, pos api.Position, today, days, want int, found bool) {
	t.Helper()
	if got, ok := aging.Reach(plan, pos, today, days); got != want || ok != found {
		t.Errorf("10.9: Reach(%v, %v, %d, %d) = %d, %v, want %d, %v", plan, pos, today, days, got, ok, want, found)
	}
}

// 10.2 to 10.5: the chapter's examples, row by row.
func TestExamplesOfPositions(t *testing.T) {
	plan := threeRows()
	satisfies(t, plan, at(0, 300), 0)
	satisfies(t, plan, at(99, 201), 0)
	satisfies(t, plan, at(100, 200), 1)
	satisfies(t, plan, at(199, 101), 1)
	satisfies(t, plan, at(200, 100), 2)
	satisfies(t, plan, at(300, 5), 2)
	satisfies(t, plan, at(250, 0), 3)
	satisfies(t, plan, at(0, -1), 3)
	oldest(t, plan, at(100, 200), 1, true)
	oldest(t, plan, at(300, 0), 0, false)

	isLate(t, plan, at(0, 300), 99, 0)
	isLate(t, plan, at(0, 300), 100, 0)
	isLate(t, plan, at(0, 300), 101, 1)
	isLate(t, plan, at(0, 300), 131, 31)
	isLate(t, plan, at(100, 200), 131, 1)
	isLate(t, plan, at(300, 5), 161, 1)
	isLate(t, plan, at(300, 0), 161, 0)

	isDue(t, plan, at(0, 300), 100, 0)
	isDue(t, plan, at(0, 300), 101, 100)
	isDue(t, plan, at(0, 300), 131, 200)
	isDue(t, plan, at(0, 300), 161, 300)
	isDue(t, plan, at(30, 270), 131, 170)
	isDue(t, plan, at(0, 320), 161, 320)
	isDue(t, plan, at(0, 150), 131, 150)
}

// 10.6 to 10.9, and of a plan that is not sound: the chapter's examples, row by row.
func TestExamplesOfDays(t *testing.T) {
	plan := threeRows()
	for i, days := range []int{-1, 0, 1, 29, 30, 59, 60, 89, 90, 1000} {
		falls(t, days, i/2)
	}

	misses(t, plan, at(0, 300), 136, 5, 0, 1)
	misses(t, plan, at(0, 300), 135, 5, 0)
	second := api.Instalment{Due: 130, Interest: 10, Principal: 90, Marked: true}
	marks(t, plan, []int{1, 7, 1, -1}, plan[0], second, plan[2])
	misses(t, aging.Mark(plan, []int{1, 7, 1, -1}), at(0, 300), 136, 5, 0)

	reaches(t, plan, at(0, 300), 90, 1, 101, true)
	reaches(t, plan, at(0, 300), 90, 30, 130, true)
	reaches(t, plan, at(0, 300), 140, 30, 141, true)
	reaches(t, plan, at(300, 0), 90, 1, 0, false)

	isLate(t, rows(plan[1], plan[0], plan[2]), at(0, 300), 200, 0)
}
