package statement_test

import (
	"slices"
	"testing"

	"arrears/api"
	"arrears/statement"
)

// 22.1: the engine's error, and nothing else, under a policy that may not be.
func TestMovesUnderRefusedPolicies(t *testing.T) {
	for _, p := range refused() {
		for _, list := range [][]api.Op{nil, ops()} {
			if got, why := statement.Moves(p, list, 7); len(got) != 0 || why != api.ErrPolicy {
				t.Errorf("22.1: Moves under %+v = %+v, %d, want none, ErrPolicy", p, got, why)
			}
		}
	}
}

// 22.1: what each kind of operation moves.
func TestMovesOfEachKind(t *testing.T) {
	late := []api.Op{open(1, 120000, 0, 12, api.PlanLevel), days(42)}
	opened := []api.Movement{
		move(first, 1, api.Principal, 120000, api.Funding, -120000),
		move(first+42, 8, api.Fees, 1500, api.FeeIncome, -1500),
	}
	for _, c := range []struct {
		ops  []api.Op
		want []api.Movement
	}{
		{[]api.Op{pay(1, 11500)}, []api.Movement{move(first+42, 2, api.Cash, 11500, api.Fees, -1500, api.Principal, -10000)}},
		{[]api.Op{pay(1, 1)}, []api.Movement{move(first+42, 2, api.Cash, 1, api.Fees, -1)}},
		{[]api.Op{pay(1, 121501)}, []api.Movement{move(first+42, 2, api.Cash, 121501, api.Fees, -1500, api.Principal, -120000, api.Unapplied, -1)}},
		{[]api.Op{pay(1, 1600), takeBack(1)}, []api.Movement{
			move(first+42, 2, api.Cash, 1600, api.Fees, -1500, api.Principal, -100),
			move(first+42, 3, api.Cash, -1600, api.Fees, 1500, api.Principal, 100),
		}},
		{[]api.Op{pay(1, 121600), refund(1, 60), refund(1, 40), refund(1, 1)}, []api.Movement{
			move(first+42, 2, api.Cash, 121600, api.Fees, -1500, api.Principal, -120000, api.Unapplied, -100),
			move(first+42, 4, api.Cash, -60, api.Unapplied, 60),
			move(first+42, 4, api.Cash, -40, api.Unapplied, 40),
		}},
		{[]api.Op{waive(1, 500), waive(1, 1001), waive(1, 1000)}, []api.Movement{
			move(first+42, 5, api.Fees, -500, api.Waived, 500),
			move(first+42, 5, api.Fees, -1000, api.Waived, 1000),
		}},
		// A promise is told in the case alone.
		{[]api.Op{promise(1, 500, 14), pay(1, 500)}, []api.Movement{move(first+42, 2, api.Cash, 500, api.Fees, -500)}},
		// What a restructuring takes up into the principal: fees here.
		{[]api.Op{restructure(1, 6, 900)}, []api.Movement{move(first+42, 7, api.Principal, 1500, api.Fees, -1500)}},
	} {
		moves(t, example(), append(slices.Clone(late), c.ops...), 1, append(slices.Clone(opened), c.want...)...)
	}
}

// 22.1: each single day of a day operation has its own movement, if the book changed on it.
func TestMovesOfDays(t *testing.T) {
	// 100.00 at 100 % earn 27.397.. cents a day.
	list := []api.Op{open(1, 10000, 10000, 1, api.PlanBalloon), days(2), days(1)}
	daily := []api.Movement{
		move(first, 1, api.Principal, 10000, api.Funding, -10000),
		move(first+1, 8, api.Interest, 27, api.Income, -27),
		move(first+2, 8, api.Interest, 27, api.Income, -27),
		move(first+3, 8, api.Interest, 28, api.Income, -28),
	}
	moves(t, example(), list, 1, daily...)
	moves(t, example(), []api.Op{list[0], days(3)}, 1, daily...)
	moves(t, example(), []api.Op{list[0], days(1), days(1), days(1)}, 1, daily...)

	// 100.00 at 1 % earn a cent on every fourth day, or so: on the days between nothing moves.
	moves(t, example(), []api.Op{open(1, 10000, 100, 1, api.PlanBalloon), days(9)}, 1,
		move(first, 1, api.Principal, 10000, api.Funding, -10000),
		move(first+4, 8, api.Interest, 1, api.Income, -1),
		move(first+8, 8, api.Interest, 1, api.Income, -1))

	// Without interest the days move nothing up to the late fee; days ahead of the opening count.
	moves(t, example(), []api.Op{days(60), days(7), open(1, 120000, 0, 12, api.PlanLevel), days(42), days(1)}, 1,
		move(first+67, 1, api.Principal, 120000, api.Funding, -120000),
		move(first+67+42, 8, api.Fees, 1500, api.FeeIncome, -1500))
}

// 22.1: interest goes to suspense from non-accrual on, and a loan that is given up moves on that day, and not behind it.
func TestMovesOfTurns(t *testing.T) {
	// The one row is due on 738031: the cycle opens on 738042, non-accrual comes with 738121, the charge-off with 738162.
	want := []api.Movement{move(first, 1, api.Principal, 365000, api.Funding, -365000)}
	for day := first + 1; day < first+162; day++ {
		earned := move(day, 8, api.Interest, 1000, api.Income, -1000)
		if day == first+42 {
			earned.Change.Net[api.Fees], earned.Change.Net[api.FeeIncome] = 10000, -10000
		}
		if day > first+121 {
			earned = move(day, 8, api.Interest, 1000, api.Suspense, -1000)
		}
		want = append(want, earned)
	}
	want = append(want, move(first+162, 8, api.Principal, -365000, api.Interest, -161000, api.Fees, -10000, api.Suspense, 40000, api.Loss, 496000))
	list := []api.Op{open(1, 365000, 10000, 1, api.PlanBalloon), days(60), days(60), days(60), days(60)}
	moves(t, example(), list, 1, want...)
	// What comes in is a recovery.
	want = append(want, move(first+240, 2, api.Cash, 540000, api.Recovery, -537000, api.Unapplied, -3000))
	moves(t, example(), append(list, pay(1, 540000)), 1, want...)
}

// 22.1: refused operations change nothing, and have no movement.
func TestMovesOfRefusedOperations(t *testing.T) {
	list := []api.Op{
		pay(1, 5), days(0), days(61), days(-1), days(most), days(least),
		open(0, 5, 0, 1, 0), open(-1, 5, 0, 1, 0), open(api.MaxLoan+1, 5, 0, 1, 0), open(1, 0, 0, 1, 0), open(1, 5, 0, 0, 0), open(1, 5, 0, 1, 3),
		open(1, 10000, 0, 2, 0), open(1, 777, 0, 1, 0),
		pay(1, 0), pay(1, -1), {Kind: api.OpPay, Loan: 1, Amount: 5, Count: -1}, takeBack(1), refund(1, 1), waive(1, 1), promise(1, 1, 1), restructure(1, 0, 0), restructure(1, 2, -1), restructure(1, 121, 0),
		{Kind: api.OpPay, Loan: 1, Amount: 5, Count: 7}, {Kind: api.OpPay, Loan: 1, Amount: 5, Count: 7}, {Kind: api.OpPay, Loan: 1, Amount: 6, Count: 6}, {Kind: api.OpPay, Loan: 1, Amount: 8, Count: 8},
		takeBack(1), takeBack(1),
	}
	moves(t, example(), list, 1,
		move(first, 1, api.Principal, 10000, api.Funding, -10000),
		move(first, 2, api.Cash, 5, api.Principal, -5),
		move(first, 2, api.Cash, 8, api.Principal, -8),
		move(first, 3, api.Cash, -8, api.Principal, 8))
}

// 22.1: only the kinds from 1 to 8 are operations of a portfolio.
func TestMovesOfOtherKinds(t *testing.T) {
	var list []api.Op
	for _, kind := range []int{least, -1, 0, 9, 10, 11, 12, 13, 14, 15, 16, 17, 18, 19, 20, 21, 22, 256 + 2, most} {
		list = append(list, api.Op{Kind: kind, Loan: 1, Amount: 5, Rate: 5, Count: 5, Days: 5, Text: "x"})
	}
	moves(t, example(), list, 1)
	moves(t, example(), slices.Concat(list, []api.Op{open(1, 10000, 0, 2, 0)}, list, []api.Op{pay(1, 5)}, list), 1,
		move(first, 1, api.Principal, 10000, api.Funding, -10000),
		move(first, 2, api.Cash, 5, api.Principal, -5))
	moves(t, example(), nil, 1)
}

// 22.1: the fields that a kind does not use count for nothing; a day operation's Loan is such a field.
func TestMovesOfUnusedFields(t *testing.T) {
	for _, loan := range []int{0, 1, 2, -1, most} {
		day := api.Op{Kind: api.OpDay, Days: 2, Loan: loan, Amount: 9, Rate: 9, Count: 9, Text: "x"}
		moves(t, example(), []api.Op{open(1, 10000, 10000, 1, api.PlanBalloon), day}, 1,
			move(first, 1, api.Principal, 10000, api.Funding, -10000),
			move(first+1, 8, api.Interest, 27, api.Income, -27),
			move(first+2, 8, api.Interest, 27, api.Income, -27))
	}
	back := api.Op{Kind: api.OpReturn, Loan: 1, Amount: -5, Rate: -9, Count: -9, Days: -9, Text: "x"}
	moves(t, example(), []api.Op{open(1, 10000, 0, 2, 0), pay(1, 5), back}, 1,
		move(first, 1, api.Principal, 10000, api.Funding, -10000),
		move(first, 2, api.Cash, 5, api.Principal, -5),
		move(first, 3, api.Cash, -5, api.Principal, 5))
}

// 22.1: each loan has its own movements alone; one that never was, none, whatever its number.
func TestMovesOfEachLoan(t *testing.T) {
	list := []api.Op{
		open(1, 1000, 0, 1, 0), open(api.MaxLoan, 2000, 0, 1, 0), open(5, 3000, 0, 1, 0),
		pay(api.MaxLoan, 20), pay(1, 10), pay(5, 30), days(3), pay(5, 31), pay(1, 11), takeBack(api.MaxLoan),
	}
	moves(t, example(), list, 1,
		move(first, 1, api.Principal, 1000, api.Funding, -1000),
		move(first, 2, api.Cash, 10, api.Principal, -10),
		move(first+3, 2, api.Cash, 11, api.Principal, -11))
	moves(t, example(), list, 5,
		move(first, 1, api.Principal, 3000, api.Funding, -3000),
		move(first, 2, api.Cash, 30, api.Principal, -30),
		move(first+3, 2, api.Cash, 31, api.Principal, -31))
	moves(t, example(), list, api.MaxLoan,
		move(first, 1, api.Principal, 2000, api.Funding, -2000),
		move(first, 2, api.Cash, 20, api.Principal, -20),
		move(first+3, 3, api.Cash, -20, api.Principal, 20))
	for _, id := range []int{0, -1, 2, api.MaxLoan - 1, api.MaxLoan + 1, most, least} {
		moves(t, example(), append(list, open(id+api.MaxLoan*2, 5, 0, 1, 0), pay(0, 5), pay(-1, 5)), id)
	}
}

// 22.1: what is taken hangs on all loans: one more than a portfolio may have is refused.
func TestMovesOfACrowd(t *testing.T) {
	var list []api.Op
	for number := 1; number <= api.MaxLoans+2; number++ {
		list = append(list, open(number, int64(1000*number), 0, 1, 0))
	}
	list = append(list, pay(api.MaxLoans, 7), pay(api.MaxLoans+1, 7))
	moves(t, example(), list, api.MaxLoans,
		move(first, 1, api.Principal, 1000*api.MaxLoans, api.Funding, -1000*api.MaxLoans),
		move(first, 2, api.Cash, 7, api.Principal, -7))
	moves(t, example(), list, api.MaxLoans+1)
	moves(t, example(), list, api.MaxLoans+2)
}

// 22.1: behind the last day no day operation is taken, not even in part.
func TestMovesAtTheLastDay(t *testing.T) {
	p := with(func(p *api.Policy) { p.FirstDay = api.MaxDay - 40 })
	loan := open(1, 10000, 10000, 1, api.PlanBalloon)
	opened := move(api.MaxDay-40, 1, api.Principal, 10000, api.Funding, -10000)
	moves(t, p, []api.Op{loan, days(41)}, 1, opened)
	moves(t, p, []api.Op{loan, days(60), days(1), days(40)}, 1, opened, move(api.MaxDay-39, 8, api.Interest, 27, api.Income, -27))

	moves(t, with(func(p *api.Policy) { p.FirstDay = api.MaxDay }), []api.Op{days(1), days(60)}, 1)
}

// 22.1: on the first day there are movements as on any other; the portfolio begins at the policy's FirstDay.
func TestMovesAtTheFirstDay(t *testing.T) {
	p := with(func(p *api.Policy) { p.FirstDay = 1 })
	moves(t, p, []api.Op{open(1, 10000, 10000, 1, api.PlanBalloon), pay(1, 10), days(1)}, 1,
		move(1, 1, api.Principal, 10000, api.Funding, -10000),
		move(1, 2, api.Cash, 10, api.Principal, -10),
		move(2, 8, api.Interest, 27, api.Income, -27))
}

// 22.1: the greatest amounts that come in are told as they are.
func TestMovesOfGreatAmounts(t *testing.T) {
	moves(t, example(), []api.Op{open(1, 10000, 0, 1, 0), pay(1, most), pay(1, 1), takeBack(1), refund(1, most-10000)}, 1,
		move(first, 1, api.Principal, 10000, api.Funding, -10000),
		move(first, 2, api.Cash, most, api.Principal, -10000, api.Unapplied, 10000-most),
		move(first, 4, api.Cash, 10000-most, api.Unapplied, most-10000))
}
