package backdate_test

import (
	"reflect"
	"slices"
	"testing"

	"arrears/api"
)

// late is a loan without interest that is paid nothing for: a cycle opens on 738042, and every row that is missed costs a fee of 15.00.
func late() []api.Op {
	return []api.Op{opened(), days(42), days(10)}
}

// 23.2: the change is by now what the operation, and all that follows from it, moved in the loan's book.
func TestCorrectTellsTheChange(t *testing.T) {
	p := example()
	// A payment at the history's end moves what it moves now.
	corrects(t, p, late(), first+52, pay(7, 11600), api.Cash, 11600, api.Fees, -1500, api.Principal, -10100)
	corrects(t, p, late(), first+52, waive(7, 600), api.Fees, -600, api.Waived, 600)
	// Ahead of the fee it spares the fee, if it is enough.
	corrects(t, p, late(), first+41, pay(7, 10000), api.Cash, 10000, api.Principal, -10000, api.Fees, -1500, api.FeeIncome, 1500)
	corrects(t, p, late(), first+41, pay(7, 9999), api.Cash, 9999, api.Principal, -9999)
	// Behind the fee it is taken for it.
	corrects(t, p, late(), first+42, pay(7, 10000), api.Cash, 10000, api.Principal, -8500, api.Fees, -1500)
	// A fee that is let go leaves more of a later payment for the principal.
	corrects(t, p, history(), first+42, pay(7, 1), api.Cash, 1, api.Principal, -1)
	corrects(t, p, []api.Op{opened(), days(42), days(1), pay(7, 11500)}, first+42, waive(7, 1500), api.Waived, 1500, api.Principal, -1500)
	// What is paid too much is held for the borrower.
	corrects(t, p, late(), first, pay(7, 120700), api.Cash, 120700, api.Principal, -120000, api.Fees, -1500, api.FeeIncome, 1500, api.Unapplied, -700)
}

// 23.2: a payment on the first day halves the principal, and so the interest of every day behind it.
func TestCorrectSparesInterest(t *testing.T) {
	// A day's interest on 3650.00 at 100 % is 10.00.
	h := []api.Op{open(7, 365000, 10000, 1, api.PlanBalloon), days(20)}
	corrects(t, example(), h, first, pay(7, 182500), api.Cash, 182500, api.Principal, -182500, api.Interest, -10000, api.Income, 10000)
	corrects(t, example(), h, first+10, pay(7, 192500), api.Cash, 192500, api.Principal, -182500, api.Interest, -15000, api.Income, 5000)
	corrects(t, example(), h, first+20, pay(7, 192500), api.Cash, 192500, api.Principal, -172500, api.Interest, -20000)
}

// 23.2: a charge-off is undone, or what comes behind it is a recovery.
func TestCorrectOfAChargeOff(t *testing.T) {
	// Four fees of 15.00 come ahead of the charge-off on 738162.
	h := []api.Op{opened(), days(60), days(60), days(60)}
	l := corrects(t, example(), h, first, pay(7, 120000), api.Cash, 120000, api.FeeIncome, 6000, api.Loss, -126000)
	if l.Case.Status != api.Closed || l.Case.LifeFees != 0 || l.ChargedOff != 0 {
		t.Errorf("23.2: the corrected loan is %+v", l)
	}
	l = corrects(t, example(), h, first+161, waive(7, 6000), api.Waived, 6000, api.Loss, -6000)
	if l.Case.Status != api.ChargedOff || l.ChargedOff != 120000 {
		t.Errorf("23.2: the corrected loan is %+v", l)
	}
	l = corrects(t, example(), h, first+162, pay(7, 130000), api.Cash, 130000, api.Recovery, -126000, api.Unapplied, -4000)
	if l.Case.Status != api.ChargedOff || l.ChargedOff != 126000 {
		t.Errorf("23.2: the corrected loan is %+v", l)
	}
}

// 23.2: the greatest nets, and what becomes of them.
func TestCorrectOfGreatAmounts(t *testing.T) {
	lone := open(7, 10000, 0, 1, 0)
	corrects(t, example(), []api.Op{lone}, first, pay(7, most), api.Cash, most, api.Principal, -10000, api.Unapplied, 10000-most)
	// What was taken has no room any more.
	h := []api.Op{lone, days(5), pay(7, most)}
	corrects(t, example(), h, first, pay(7, 5), api.Cash, 5-most, api.Principal, 9995, api.Unapplied, most-10000)
	upsets(t, example(), h, first, pay(7, 5), 2)
}

// 23.2: what changes nothing in the books by now tells a change of zeros.
func TestCorrectWithoutChange(t *testing.T) {
	h := []api.Op{opened(), days(5), traced(7, 100, 3)}
	l := corrects(t, example(), h, first+2, traced(7, 100, 3))
	if l.Book.Net[api.Cash] != 100 || l.Trace != 3 {
		t.Errorf("23.2: the corrected loan is %+v", l)
	}
	upsets(t, example(), h, first+2, traced(7, 100, 3), 2)
	// A payment that the bank takes back in the end.
	corrects(t, example(), []api.Op{opened(), days(5), takeBack(7)}, first+2, pay(7, 100))
}

// 23.2: the loan is told whole, as the new history leaves it.
func TestCorrectTellsTheLoan(t *testing.T) {
	l := corrects(t, example(), late()[:2], first+41, traced(7, 4000, 9), api.Cash, 4000, api.Principal, -4000)
	plan := l.Plan
	l.Plan = nil
	want := api.Loan{
		ID:      7,
		Terms:   api.Terms{Kind: api.PlanLevel, Principal: 120000, Count: 12, Start: first},
		Book:    book(api.Cash, 4000, api.Principal, 116000, api.Fees, 1500, api.Funding, -120000, api.FeeIncome, -1500),
		Case:    api.Case{Status: api.Delinquent, Cycles: 1, Since: 738042, Deadline: 738162, CycleFees: 1500, LifeFees: 1500},
		Day:     738042,
		Applied: 4000, Last: api.Parts{Principal: 4000}, HasLast: true, Trace: 9,
	}
	if !reflect.DeepEqual(l, want) {
		t.Errorf("23.2: the corrected loan is %+v, want %+v", l, want)
	}
	if len(plan) != 12 || plan[0] != (api.Instalment{Due: 738031, Principal: 10000, Marked: true}) || plan[1] != (api.Instalment{Due: 738062, Principal: 10000}) {
		t.Errorf("23.2: the corrected loan's plan is %+v", plan)
	}
}

// 23.2: the change is that of the loan of the operation's number alone.
func TestCorrectOfOneAmongMany(t *testing.T) {
	h := []api.Op{open(999999, 5000, 0, 1, 0), open(1, 120000, 0, 12, 0), opened(), days(42), pay(1, 11500), pay(7, 11500), days(5), pay(999999, 50)}
	for _, id := range []int{1, 7} {
		l := corrects(t, example(), h, first+31, pay(id, 10000), api.Cash, 10000, api.Principal, -11500, api.FeeIncome, 1500)
		if l.ID != id {
			t.Errorf("23.2: the corrected loan is %d, want %d", l.ID, id)
		}
	}
	// It is closed then, without a fee: what it paid later is held for it.
	corrects(t, example(), h, first+31, pay(999999, 5000), api.Cash, 5000, api.Principal, -5000, api.Fees, -1450, api.FeeIncome, 1500, api.Unapplied, -50)
}

// 23.2: a loan that was opened behind the others, in the midst of the history.
func TestCorrectOfALaterLoan(t *testing.T) {
	h := []api.Op{open(1, 5000, 0, 1, 0), days(20), opened(), days(20), pay(7, 10)}
	l := corrects(t, example(), h, first+20, pay(7, 100), api.Cash, 100, api.Principal, -100)
	if l.ID != 7 || l.Day != first+40 || l.Terms.Start != first+20 {
		t.Errorf("23.2: the corrected loan is %+v", l)
	}
	refuses(t, example(), h, first+19, pay(7, 100), api.ErrNoLoan)
	if !slices.Equal(h, []api.Op{open(1, 5000, 0, 1, 0), days(20), opened(), days(20), pay(7, 10)}) {
		t.Errorf("23.2: the history that was handed in is changed")
	}
}
