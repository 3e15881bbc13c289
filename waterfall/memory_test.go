package waterfall_test

import (
	"slices"
	"testing"

	"arrears/api"
	"arrears/waterfall"
)

// 9.4, 9.5: what is answered is new memory, its spare room too: no other answer changes with it.
func TestEntriesAreNew(t *testing.T) {
	for _, parts := range []api.Parts{parted(1, 2, 3, 4, 5), parted(0, 0, 7, 0, 0), parted(100, 0, 20, -5, 0), {}} {
		answers := [][]api.Entry{waterfall.Entries(parts), waterfall.Entries(parts), waterfall.Undo(parts), waterfall.Undo(parts)}
		for i, answer := range answers {
			var before [][]api.Entry
			for _, other := range answers {
				before = append(before, slices.Clone(other))
			}
			whole := answer[:cap(answer)]
			for at := range whole {
				whole[at] = from(9, 9, 9)
			}
			for j, other := range answers {
				if j != i && !slices.Equal(other, before[j]) {
					t.Errorf("9.4: answers %d and %d of %v share memory", i, j, parts)
				}
			}
		}
		moves(t, parts, expected(parts)...)
	}
}

// expected are a payment's entries, field by field.
func expected(parts api.Parts) []api.Entry {
	var want []api.Entry
	for _, e := range list(from(0, 3, parts.Fees), from(0, 2, parts.Interest), from(0, 1, parts.Principal), from(0, 4, parts.Unapplied), from(0, 10, parts.Recovery)) {
		if e.Amount > 0 {
			want = append(want, e)
		}
	}
	return want
}

// 9.1 to 9.5: nothing is kept: the same call answers the same, whatever was called in between.
func TestNothingIsKept(t *testing.T) {
	for order := range turns {
		allocates(t, 0, owes(100, 50, 1000), 120, parted(100, 20, 0, 0, 0))
		recovers(t, 30, 100, parted(0, 0, 0, 70, 30), api.OK)
		moves(t, parted(1, 0, 0, 0, 2), from(0, 3, 1), from(0, 10, 2))
		waterfall.Allocate(order, owes(most, 1, most), most)
		waterfall.Recover(most, 1)
		waterfall.Undo(parted(9, 9, 9, 9, 9))
		waterfall.Allocate(6, owes(1, 1, 1), 5)
	}
}
