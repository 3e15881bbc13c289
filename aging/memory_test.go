package aging_test

import (
	"slices"
	"testing"

	"arrears/aging"
	"arrears/api"
)

// guard is no row of any plan in these tests.
func guard() api.Instalment {
	return api.Instalment{Due: -7, Interest: -77, Principal: -777, Marked: true}
}

// laidAmong lays a list into the midst of a longer memory, and hands out that memory too.
func laidAmong[T any](list []T, around T) (inside, all []T) {
	all = slices.Concat([]T{around, around}, list, slices.Repeat([]T{around}, 16))
	return all[2 : 2+len(list)], all
}

// handedIn are plans of all fates: no rows, sound, marked, not sound.
func handedIn() [][]api.Instalment {
	return [][]api.Instalment{
		{},
		threeRows(),
		aging.Mark(threeRows(), []int{0, 2}),
		rows(row(5, 0, 0)),
		rows(row(130, 10, 90), row(100, 10, 90)),
		rows(row(5, most, most), row(6, -1, 0)),
	}
}

// 10.1: plans and numbers that are handed in stay as they are, what lies around them too.
func TestListsStay(t *testing.T) {
	for _, plan := range handedIn() {
		inside, all := laidAmong(plan, guard())
		numbers, allNumbers := laidAmong([]int{2, -1, 0, 7, 0, len(plan)}, 1)
		before, numbersBefore := slices.Clone(all), slices.Clone(allNumbers)
		for _, pos := range []api.Position{at(0, 300), at(100, 200), at(300, 0), at(least, most)} {
			aging.Satisfied(inside, pos)
			aging.Oldest(inside, pos)
			aging.Days(inside, pos, 500)
			aging.PastDue(inside, pos, 131)
			aging.Missed(inside, pos, 500, 0)
			aging.Reach(inside, pos, 90, 30)
			aging.Mark(inside, numbers)
		}
		if !slices.Equal(all, before) || !slices.Equal(allNumbers, numbersBefore) {
			t.Errorf("10.1: %v, %v are left behind, of %v, %v", all, allNumbers, before, numbersBefore)
		}
	}
}

// 10.1: what Mark answers is new memory, its spare room too, also where nothing is marked.
func TestMarkIsNew(t *testing.T) {
	for _, plan := range handedIn() {
		for _, numbers := range [][]int{nil, {1}, {0, 1, 2}, {9}} {
			inside, all := laidAmong(plan, guard())
			before := slices.Clone(all)
			first, second := aging.Mark(inside, numbers), aging.Mark(inside, numbers)
			kept := slices.Clone(second)
			first = first[:cap(first)]
			for i := range first {
				first[i] = row(9, 9, 9)
			}
			if !slices.Equal(all, before) || !slices.Equal(second, kept) {
				t.Errorf("10.1: Mark(%v, %v) shares memory", plan, numbers)
			}
			for i := range all {
				all[i] = row(8, 8, 8)
			}
			if !slices.Equal(second, kept) {
				t.Errorf("10.1: the answer to Mark(%v, %v) changes with the plan", plan, numbers)
			}
		}
	}
}

// 10.1: what Missed answers is new memory, its spare room too.
func TestMissedIsNew(t *testing.T) {
	for _, plan := range handedIn() {
		first, second := aging.Missed(plan, at(0, 300), 500, 0), aging.Missed(plan, at(0, 300), 500, 0)
		kept := slices.Clone(second)
		first = first[:cap(first)]
		for i := range first {
			first[i] = 99
		}
		if !slices.Equal(second, kept) {
			t.Errorf("10.1: two answers to Missed(%v) share memory", plan)
		}
		misses(t, plan, at(0, 300), 500, 0, kept...)
	}
}

// 10.1: nothing is kept: the same call answers the same, whatever was called in between.
func TestNothingIsKept(t *testing.T) {
	for _, other := range handedIn() {
		satisfies(t, threeRows(), at(100, 200), 1)
		isLate(t, threeRows(), at(100, 200), 136, 6)
		isDue(t, threeRows(), at(100, 200), 136, 100)
		misses(t, threeRows(), at(0, 300), 136, 5, 0, 1)
		reaches(t, threeRows(), at(100, 200), 90, 30, 160, true)
		aging.Days(aging.Mark(other, []int{0, 1}), at(7, 7), 700)
		aging.Missed(other, at(0, most), most, least)
		aging.Reach(other, at(0, 1), 1, 1)
	}
}
