package calendar_test

import (
	"testing"

	"arrears/api"
	"arrears/calendar"
)

// thirtyCount counts as the document says, on the library's dates.
func thirtyCount(from, to int) int {
	if from > to {
		return -thirtyCount(to, from)
	}
	y1, m1, f := clock(from).Date()
	y2, m2, t := clock(to).Date()
	if f == 31 {
		f = 30
	}
	if t == 31 && f == 30 {
		t = 30
	}
	return 360*(y2-y1) + 30*int(m2-m1) + t - f
}

// 2.9: by both bases and in both directions, over the edges of the calendar.
func TestBetweenOnEdges(t *testing.T) {
	days := edgeDays()
	for _, from := range days {
		for _, to := range days {
			if got, ok := calendar.Between(from, to, api.BasisActual); got != to-from || !ok {
				t.Fatalf("2.9: Between(%d, %d, BasisActual) = %d, %v, want %d", from, to, got, ok, to-from)
			}
		}
	}
	for i := 0; i < len(days); i += 5 {
		for _, to := range days {
			want := thirtyCount(days[i], to)
			if got, ok := calendar.Between(days[i], to, api.BasisThirty); got != want || !ok {
				t.Fatalf("2.9: Between(%d, %d, BasisThirty) = %d, %v, want %d", days[i], to, got, ok, want)
			}
		}
	}
}

// 2.9: every pair of days of two years about a leap day.
func TestBetweenEveryPair(t *testing.T) {
	first, last := dayOf(2023, 1, 1), dayOf(2024, 12, 31)
	for from := first; from <= last; from++ {
		for to := first; to <= last; to++ {
			want := thirtyCount(from, to)
			if got, ok := calendar.Between(from, to, api.BasisThirty); got != want || !ok {
				t.Fatalf("2.9: Between(%d, %d, BasisThirty) = %d, %v, want %d", from, to, got, ok, want)
			}
		}
	}
}

// 2.9: the document's own examples, and the whole calendar.
func TestBetweenExamples(t *testing.T) {
	for _, c := range []struct{ from, to, basis, want int }{
		{dayOf(2023, 1, 31), dayOf(2023, 2, 28), api.BasisThirty, 28},
		{dayOf(2023, 1, 15), dayOf(2023, 1, 31), api.BasisThirty, 16},
		{dayOf(2023, 1, 30), dayOf(2023, 1, 31), api.BasisThirty, 0},
		{dayOf(2023, 1, 31), dayOf(2023, 1, 30), api.BasisThirty, 0},
		{dayOf(2023, 3, 31), dayOf(2023, 2, 28), api.BasisThirty, -33},
		{dayOf(2024, 2, 29), dayOf(2024, 3, 31), api.BasisThirty, 32},
		{dayOf(2024, 3, 1), dayOf(2024, 2, 1), api.BasisActual, -29},
		{1, api.MaxDay, api.BasisActual, 3652058},
		{api.MaxDay, 1, api.BasisActual, -3652058},
		{1, api.MaxDay, api.BasisThirty, 3599640},
		{api.MaxDay, 1, api.BasisThirty, -3599640},
	} {
		if got, ok := calendar.Between(c.from, c.to, c.basis); got != c.want || !ok {
			t.Errorf("2.9: Between(%d, %d, %d) = %d, %v, want %d", c.from, c.to, c.basis, got, ok, c.want)
		}
	}
}

// 2.9: what is no day, and what is no basis.
func TestBetweenRefused(t *testing.T) {
	refused := func(from, to, basis int) {
		t.Helper()
		if got, ok := calendar.Between(from, to, basis); got != 0 || ok {
			t.Errorf("2.9: Between(%d, %d, %d) = %d, %v, want 0, false", from, to, basis, got, ok)
		}
	}
	for _, bad := range noDays() {
		for _, basis := range []int{api.BasisActual, api.BasisThirty} {
			refused(bad, 1, basis)
			refused(bad, api.MaxDay, basis)
			refused(1, bad, basis)
			refused(api.MaxDay, bad, basis)
			refused(bad, bad, basis)
		}
	}
	for _, basis := range []int{lowest, -1, 2, 3, 1 << 32, 1<<32 + 1, highest} {
		refused(1, 1, basis)
		refused(738000, 738100, basis)
		refused(738100, 738000, basis)
	}
}

// 2.12: by BasisActual, from a to b and from b to c is from a to c.
func TestActualAddsUp(t *testing.T) {
	list := spread(3000, api.MaxDay)
	for i := 0; i < len(list); i += 3 {
		a, b, c := list[i]+1, list[i+1]+1, list[i+2]+1
		first, _ := calendar.Between(a, b, api.BasisActual)
		second, _ := calendar.Between(b, c, api.BasisActual)
		if whole, ok := calendar.Between(a, c, api.BasisActual); whole != first+second || !ok {
			t.Errorf("2.12: from %d over %d to %d: %d and %d, but at once %d, %v", a, b, c, first, second, whole, ok)
		}
	}
}
