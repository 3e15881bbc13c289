package statement_test

import (
	"slices"
	"testing"

	"arrears/api"
)

// 22.2: the movements of all days up to one, that one too, wherever they stand in the list, whatever their kind.
func TestUpto(t *testing.T) {
	list := []api.Movement{
		move(20, 8, api.Cash, 5, api.Income, -5),
		move(10, 99, api.Cash, 7, api.Waived, 3),
		move(-4, 0, api.Fees, -1),
		move(20, -6, api.Cash, 11),
		move(most, 2, api.Cash, 13),
		move(least, 2, api.Cash, 17),
	}
	for _, c := range []struct {
		day  int
		want api.Book
	}{
		{least, book(api.Cash, 17)},
		{-5, book(api.Cash, 17)},
		{-4, book(api.Cash, 17, api.Fees, -1)},
		{9, book(api.Cash, 17, api.Fees, -1)},
		{10, book(api.Cash, 24, api.Fees, -1, api.Waived, 3)},
		{19, book(api.Cash, 24, api.Fees, -1, api.Waived, 3)},
		{20, book(api.Cash, 40, api.Fees, -1, api.Waived, 3, api.Income, -5)},
		{most - 1, book(api.Cash, 40, api.Fees, -1, api.Waived, 3, api.Income, -5)},
		{most, book(api.Cash, 53, api.Fees, -1, api.Waived, 3, api.Income, -5)},
	} {
		comes(t, list, c.day, c.want)
	}
	for _, day := range []int{least, -1, 0, 1, most} {
		comes(t, nil, day, api.Book{})
		comes(t, []api.Movement{}, day, api.Book{})
	}
}

// 22.2: each account's sum reaches to the ends of an int64, and not one farther.
func TestUptoAtTheEnds(t *testing.T) {
	for account := range int64(api.Accounts) {
		other := (account + 1) % api.Accounts
		high := []api.Movement{move(1, 2, account, most-1), move(2, 2, account, 1, other, 9), move(3, 2, account, 1), move(4, 2, account, -1)}
		comes(t, high, 1, book(account, most-1))
		comes(t, high, 2, book(account, most, other, 9))
		comesToNone(t, high, 3)
		comes(t, high, 4, book(account, most, other, 9))

		low := []api.Movement{move(1, 2, account, least+1), move(2, 2, account, -1, other, 9), move(3, 2, account, -1), move(4, 2, account, 1)}
		comes(t, low, 2, book(account, least, other, 9))
		comesToNone(t, low, 3)
		comes(t, low, 4, book(account, least, other, 9))
	}
}

// 22.2: sums on the way count for nothing, however far they go.
func TestUptoFarOnTheWay(t *testing.T) {
	var list []api.Movement
	for range 5 {
		list = append(list, move(1, 2, api.Suspense, most, api.Loss, least))
	}
	comesToNone(t, list, 1)
	for range 5 {
		list = append(list, move(1, 2, api.Suspense, -most, api.Loss, most))
	}
	comes(t, list, 1, book(api.Loss, -5))
	// Four times the least number is a whole turn of 64 bits.
	comesToNone(t, slices.Repeat([]api.Movement{move(1, 2, api.Loss, least)}, 4), 1)
	comesToNone(t, slices.Repeat([]api.Movement{move(1, 2, api.Loss, least)}, 2), 1)
}

// 22.3: the movements of the days from one to another, both too, as they stand in the list.
func TestWithin(t *testing.T) {
	list := []api.Movement{
		move(20, 8, api.Cash, 5),
		move(10, 99, api.Cash, 7),
		move(20, 8, api.Cash, 5),
		move(-4, 0, api.Fees, least),
		move(most, 2, api.Cash, most),
		move(least, 2, api.Cash, most),
		move(0, 2),
	}
	for _, c := range []struct {
		from, to int
		want     []api.Movement
	}{
		{10, 20, list[:3]},
		{11, 20, []api.Movement{list[0], list[2]}},
		{10, 19, list[1:2]},
		{20, 20, []api.Movement{list[0], list[2]}},
		{11, 19, nil},
		{-4, 0, []api.Movement{list[3], list[6]}},
		{-3, 0, list[6:]},
		{least, -5, list[5:6]},
		{21, most, list[4:5]},
		{least, most, list},
		{20, 10, nil},
		{most, least, nil},
		{0, -1, nil},
	} {
		holds(t, list, c.from, c.to, c.want...)
	}
	holds(t, nil, least, most)
	holds(t, []api.Movement{}, 1, 2)
}
