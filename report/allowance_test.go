package report_test

import (
	"testing"

	"arrears/api"
)

// all is a rate for each class.
func all(rate int64) [5]int64 { return [5]int64{rate, rate, rate, rate, rate} }

// only is a number for one class, and 0 for the others.
func only(class int, number int64) [5]int64 {
	var list [5]int64
	list[class] = number
	return list
}

// 21.6: each class by its own rate; loans that are over are not counted.
func TestAllowanceByClass(t *testing.T) {
	s := classed(t, map[int]sized{
		1: {0, 10000}, 2: {1, 20000}, 3: {2, 40000}, 4: {3, 80000}, 5: {4, 160000}, 6: {5, 320000}, 7: {6, 640000}, 8: {1, 1000000},
	})
	sets(t, slow(), s, all(0), all(0))
	sets(t, slow(), s, all(10000), [5]int64{10000, 1020000, 40000, 80000, 160000})
	sets(t, slow(), s, [5]int64{1, 10, 100, 1000, 10000}, [5]int64{1, 1020, 400, 8000, 160000})
	for class, want := range [5]int64{5000, 510000, 20000, 40000, 80000} {
		sets(t, slow(), s, only(class, 5000), only(class, want))
	}
}

// 21.6: the sum of a class is rounded, a half to the even cent, and not each of its loans.
func TestAllowanceRounds(t *testing.T) {
	for sum, want := range map[int64]int64{49: 0, 50: 0, 51: 1, 149: 1, 150: 2, 151: 2, 250: 2, 251: 3, 350: 4} {
		sets(t, slow(), classed(t, map[int]sized{1: {2, sum}}), all(100), only(2, want))
		sets(t, slow(), classed(t, map[int]sized{1: {2, 17}, 9: {2, sum - 17}}), all(100), only(2, want))
	}
	sets(t, slow(), classed(t, map[int]sized{1: {3, 40}, 2: {3, 40}, 3: {3, 40}}), all(100), only(3, 1))
	sets(t, slow(), classed(t, map[int]sized{1: {0, 60}, 2: {0, 60}, 3: {0, 60}, 4: {4, 60}}), all(100), [5]int64{0: 2, 4: 1})
}

// 21.6: a rate outside its range is refused, in whichever class, whatever the portfolio and the policy are.
func TestAllowanceOfWrongRates(t *testing.T) {
	for class := range 5 {
		for _, rate := range []int64{10001, 10002, 1 << 32, most, -1, -10000, least} {
			for _, other := range []int64{0, 10000} {
				rates := all(other)
				rates[class] = rate
				setsNone(t, example(), late(t), rates)
				setsNone(t, example(), api.State{}, rates)
				setsNone(t, api.Policy{}, late(t), rates)
				setsNone(t, api.Policy{}, api.State{}, rates)
			}
		}
		for _, rate := range []int64{0, 1, 9999, 10000} {
			sets(t, example(), api.State{}, only(class, rate), all(0))
		}
	}
}

// 21, 21.6: under a policy that may not be every exposure is 0.
func TestAllowanceUnderRefusedPolicies(t *testing.T) {
	_, s := everyStatus(t)
	for _, p := range refused() {
		for _, state := range []api.State{s, late(t), {}} {
			sets(t, p, state, all(10000), all(0))
			setsNone(t, p, state, [5]int64{10001, 0, 0, 0, 0})
		}
	}
}

// suspended is a policy and the operations that lead a loan of 10000.00 at 1000 percent, 27397.26 cents a day, into non-accrual on the day 42, and on to the day 120: of 120 days' interest (3287671 cents) that of 78 (2136987 cents, with what was carried on from the day 42) is in suspense, and there is a late fee of 100.00.
func suspended() (api.Policy, []api.Op) {
	p := with(func(p *api.Policy) { p.NonAccrual = 11 })
	return p, []api.Op{open(1, 1000000, 100000, 1, api.PlanBalloon), days(60), days(60)}
}

// 21.6: an exposure is fees, interest and principal, less what is in suspense.
func TestAllowanceLessSuspense(t *testing.T) {
	p, ops := suspended()
	sets(t, p, lived(t, p, ops...), all(10000), only(3, 10000+3287671+1000000-2136987))
	// The payment goes to the fee and to interest, of which so much less could be lost.
	sets(t, p, lived(t, p, append(ops, pay(1, 1010000))...), all(10000), only(3, 3287671-2136987))
}

// 21.6: an exposure that would be below 0 counts as 0, and takes nothing off the others of its class.
func TestAllowanceBelowZero(t *testing.T) {
	p, ops := suspended()
	ops = append([]api.Op{open(2, 500000, 0, 1, api.PlanBalloon)}, ops...)
	// All interest is paid: 1000000 of principal are less than the 2136987 that are still in suspense.
	paid := append(ops, pay(1, 10000+3287671))
	sets(t, p, lived(t, p, paid...), all(10000), only(3, 510000))
	// At the edge: as much is owed as is in suspense, then a cent more and a cent less.
	for off, want := range map[int64]int64{0: 0, 1: 1, -1: 0} {
		edge := append(ops, pay(1, 10000+3287671+1000000-2136987-off), pay(2, 510000))
		sets(t, p, lived(t, p, edge...), all(10000), only(3, want))
	}
}

// heavy is a loan that no engine made, of a class, of which so much principal is owed: no portfolio's loans come near to the greatest int64.
func heavy(number, class int, amount int64) api.Loan {
	status := [7]int{5: api.ChargedOff, 6: api.Closed}[class]
	late := [7]int{0, 1, 30, 60, 90}[class]
	return api.Loan{
		ID: number, Case: api.Case{Status: status}, Day: first,
		Book: api.Book{Net: [api.Accounts]int64{api.Principal: amount, api.Funding: -amount}},
		Plan: []api.Instalment{{Due: first - late, Principal: 1}},
	}
}

// heavies are loans of a class, of which so much is owed.
func heavies(class int, amounts ...int64) []api.Loan {
	var loans []api.Loan
	for i, amount := range amounts {
		loans = append(loans, heavy(10*class+i+1, class, amount))
	}
	return loans
}

// 21.6: the sum of a class may be the greatest int64 and not a cent more; what cannot be added up is refused, also by rates of 0.
func TestAllowanceAtTheEnd(t *testing.T) {
	for class := range 5 {
		for _, part := range []int64{0, 1, most / 2, most} {
			loans := heavies(class, most-part, part)
			sets(t, example(), api.State{Loans: loans}, all(10000), only(class, most))
			sets(t, example(), api.State{Loans: loans}, all(5000), only(class, 1<<62))
			for _, rate := range []int64{0, 1, 10000} {
				setsNone(t, example(), api.State{Loans: heavies(class, most-part, part, 1)}, all(rate))
				setsNone(t, example(), api.State{Loans: heavies(class, most-part, part, most, 2)}, all(rate))
			}
		}
		setsNone(t, example(), api.State{Loans: heavies(class, most, most, most, most)}, all(1))
	}
}

// 21.6: each class is added up for itself, and loans that are over not at all.
func TestAllowanceOfClassesApart(t *testing.T) {
	var loans []api.Loan
	for class := range 7 {
		loans = append(loans, heavy(class+1, class, most))
	}
	loans = append(loans, heavy(8, 5, most), heavy(9, 6, most))
	sets(t, example(), api.State{Loans: loans}, all(10000), all(most))
}

// 21.6: one loan of which more is owed than an int64 holds is refused as a sum is.
func TestAllowanceOfOneLoan(t *testing.T) {
	l := heavy(1, 0, most)
	l.Book.Net[api.Fees] = 1
	setsNone(t, example(), api.State{Loans: []api.Loan{l}}, all(0))
	l.Book.Net[api.Suspense] = -1
	sets(t, example(), api.State{Loans: []api.Loan{l}}, all(10000), only(0, most))
}
