package bureau_test

import (
	"testing"

	"arrears/api"
	"arrears/bureau"
	"arrears/loan"
)

// lent is the loan of the chapter's examples, as chapter 14 opens it.
func lent() api.Loan {
	return loan.Open(example(), 7, api.Terms{Kind: api.PlanLevel, Principal: 120000, Count: 12, Start: first}).Loan
}

// late is that loan so many days behind its first due day.
func late(count int) api.Loan {
	l := lent()
	for range 31 + count {
		l = loan.Roll(example(), l).Loan
	}
	return l
}

// codes holds Code to its letter, in a status that is told for the test's sake.
func codes(t *testing.T, l api.Loan, status int, want string) {
	t.Helper()
	if l.Case.Status != status {
		t.Fatalf("the loan's status is %d, not %d", l.Case.Status, status)
	}
	if got := bureau.Code(example(), l); got != want {
		t.Errorf("24.1: Code of a loan in status %d = %q, want %q", status, got, want)
	}
}

// 24.1: the bucket is told by the days past due, at the ends of each bucket.
func TestCodeOfBuckets(t *testing.T) {
	codes(t, lent(), api.Current, "0")
	codes(t, late(0), api.Current, "0")
	codes(t, late(1), api.Grace, "1")
	codes(t, late(10), api.Grace, "1")
	codes(t, late(11), api.Delinquent, "1")
	codes(t, late(29), api.Delinquent, "1")
	for count := range 129 {
		want := bucketOf(count)
		if got := bureau.Code(example(), late(count)); got != want {
			t.Errorf("24.1: Code with %d days past due = %q, want %q", count, got, want)
		}
	}
}

// bucketOf is the letter of so many days past due: a bucket has thirty.
func bucketOf(count int) string {
	switch {
	case count < 1:
		return "0"
	case count < 30:
		return "1"
	case count < 60:
		return "2"
	case count < 90:
		return "3"
	}
	return "4"
}

// 24.1: the letters of every status.
func TestCodeOfStatuses(t *testing.T) {
	p := example()
	codes(t, late(89), api.Delinquent, "3")
	codes(t, late(91), api.NonAccrual, "4")
	codes(t, late(130), api.NonAccrual, "4")
	codes(t, late(131), api.ChargedOff, "X")
	codes(t, late(300), api.ChargedOff, "X")

	for _, count := range []int{11, 40, 70, 100} {
		codes(t, loan.Promise(p, late(count), 5000, 9).Loan, api.Promised, "P")
	}
	codes(t, loan.Pay(p, late(40), 60000).Loan, api.Cured, "0")
	codes(t, loan.Restructure(p, late(40), 12, 0).Loan, api.Restructured, "0")
	codes(t, loan.Pay(p, late(40), 2000).Loan, api.Delinquent, "2")
	codes(t, loan.Pay(p, lent(), 120000).Loan, api.Closed, "C")
	codes(t, loan.Pay(p, late(100), 200000).Loan, api.Closed, "C")
	codes(t, loan.Pay(p, late(200), 500).Loan, api.ChargedOff, "X")

	broken := loan.Promise(p, late(40), 5000, 2).Loan
	for range 3 {
		broken = loan.Roll(p, broken).Loan
	}
	codes(t, broken, api.Delinquent, "2")
}

// 24.1: under a policy that may not be there is no letter, whatever the loan is.
func TestCodeOfARefusedPolicy(t *testing.T) {
	closed := loan.Pay(example(), lent(), 120000).Loan
	for _, p := range refused() {
		for _, l := range []api.Loan{lent(), late(50), late(200), closed, {}} {
			if got := bureau.Code(p, l); got != "" {
				t.Errorf("24.1: Code(%+v, status %d) = %q", p, l.Case.Status, got)
			}
		}
	}
}

// 24.1: no call panics, of loans that no call made either.
func TestCodeOfIllMadeLoans(t *testing.T) {
	for _, status := range []int{least, -1, 0, 1, 4, 8, 9, 10, most} {
		for _, day := range []int{least, 0, first, most} {
			l := api.Loan{Day: day, Case: api.Case{Status: status}, Applied: most, Plan: []api.Instalment{{Due: least}, {Due: most, Interest: most, Principal: most}}}
			for account := range l.Book.Net {
				l.Book.Net[account] = least
			}
			bureau.Code(example(), l)
		}
	}
}
