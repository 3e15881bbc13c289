package backdate_test

import (
	"math/rand"
	"reflect"
	"slices"
	"testing"

	"arrears/api"
	"arrears/backdate"
	"arrears/engine"
	"arrears/ledger"
	"arrears/money"
)

// left is the portfolio that a history leaves.
func left(t *testing.T, p api.Policy, ops []api.Op) *engine.Engine {
	t.Helper()
	e := begin(t, p)
	for _, o := range ops {
		e.Apply(o)
	}
	return e
}

// of are a portfolio's notices for one loan, without their IDs.
func of(s api.State, number int) []api.Notice {
	var list []api.Notice
	for _, n := range s.Notices {
		if n.Loan == number {
			n.ID = 0
			list = append(list, n)
		}
	}
	return list
}

// 23.5: the corrected loan is the one of a portfolio that plays the new history; no other loan is changed, nor are its notices, but for their IDs.
func TestOneLoanIsCorrected(t *testing.T) {
	random := rand.New(rand.NewSource(235))
	told, moved := 0, 0
	for range 60 {
		p := anyPolicy(random)
		list, was := anyHistory(t, random, p, 60)
		for range 6 {
			day, o := anyLate(random, was)
			a := ask(t, p, list, day, o)
			if a.why != api.OK {
				continue
			}
			told++
			then := left(t, p, a.ops).Save()
			if then.Today != was.Today || len(then.Loans) != len(was.Loans) {
				t.Fatalf("23.5: %+v on day %d in %+v leads to day %d with %d loans", o, day, list, then.Today, len(then.Loans))
			}
			for i, l := range was.Loans {
				want := l
				if l.ID == o.Loan {
					want = a.loan
				} else if !slices.Equal(of(then, l.ID), of(was, l.ID)) {
					t.Errorf("23.5: %+v on day %d in %+v tells loan %d %+v, not %+v", o, day, list, l.ID, of(then, l.ID), of(was, l.ID))
				}
				if !reflect.DeepEqual(then.Loans[i], want) {
					t.Errorf("23.5: %+v on day %d in %+v leaves %+v, want %+v", o, day, list, then.Loans[i], want)
				}
			}
			if !slices.Equal(then.Notices, was.Notices) {
				moved++
			}
		}
	}
	if told < 100 || moved < 30 {
		t.Errorf("%d operations were put in, of which %d moved notices", told, moved)
	}
}

// 23.5: at the history's own last day Correct is what Apply would do now, and upsets nothing.
func TestOnTheLastDayItIsApply(t *testing.T) {
	random := rand.New(rand.NewSource(2351))
	told := 0
	for range 100 {
		p := anyPolicy(random)
		list, was := anyHistory(t, random, p, 60)
		for range 6 {
			_, o := anyLate(random, was)
			if o.Kind != api.OpPay && o.Kind != api.OpWaive {
				continue
			}
			e := left(t, p, list)
			if why := e.Apply(o).Err; why != api.OK {
				refuses(t, p, list, was.Today, o, why)
				continue
			}
			told++
			a := ask(t, p, list, was.Today, o)
			if want := loanOf(e.Save(), o.Loan); !reflect.DeepEqual(a.loan, want) || a.why != api.OK {
				t.Errorf("23.5: %+v behind %+v leaves %+v, %d, want %+v", o, list, a.loan, a.why, want)
			}
			if len(a.upset) != 0 || a.ops[len(a.ops)-1] != o {
				t.Errorf("23.5: %+v behind %+v upsets %v in %+v", o, list, a.upset, a.ops)
			}
		}
	}
	if told < 100 {
		t.Errorf("%d operations were put in", told)
	}
}

// 23.5: operations on two loans can be put into a history in either order.
func TestEitherOrder(t *testing.T) {
	random := rand.New(rand.NewSource(2352))
	told := 0
	for range 250 {
		p := anyPolicy(random)
		list, was := anyHistory(t, random, p, 50)
		day, o := anyLate(random, was)
		later, other := anyLate(random, was)
		if random.Intn(4) == 0 {
			later = day
		}
		if o.Loan == other.Loan {
			continue
		}
		one, why := backdate.Insert(p, list, day, o)
		two, whyToo := backdate.Insert(p, list, later, other)
		if why != api.OK || whyToo != api.OK {
			continue
		}
		told++
		both, why := backdate.Insert(p, one, later, other)
		turned, whyToo := backdate.Insert(p, two, day, o)
		if why != api.OK || whyToo != api.OK {
			t.Fatalf("23.5: behind one another %+v on day %d and %+v on day %d in %+v are %d and %d", o, day, other, later, list, why, whyToo)
		}
		if got, want := left(t, p, turned).Save().Loans, left(t, p, both).Save().Loans; !reflect.DeepEqual(got, want) {
			t.Errorf("23.5: %+v on day %d and %+v on day %d in %+v leave %+v, in the other order %+v", o, day, other, later, list, want, got)
		}
	}
	if told < 50 {
		t.Errorf("%d pairs of operations were put in", told)
	}
}

// 23.5: the change balances, and Entries, posted over the old book, give the corrected one.
func TestEntriesLeadToTheCorrectedBook(t *testing.T) {
	random := rand.New(rand.NewSource(2353))
	told, many := 0, 0
	for range 100 {
		p := anyPolicy(random)
		list, was := anyHistory(t, random, p, 60)
		for range 8 {
			day, o := anyLate(random, was)
			l, change, why := backdate.Correct(p, list, day, o)
			if why != api.OK {
				continue
			}
			told++
			if sum, ok := money.Sum(change.Net[:]); sum != 0 || !ok {
				t.Errorf("23.5: the change %v does not balance", change)
			}
			moves, ok := backdate.Entries(change)
			posted, why := ledger.Post(loanOf(was, o.Loan).Book, moves)
			if !ok || why != api.OK || posted != l.Book {
				t.Errorf("23.5: %+v on day %d in %+v: the moves %+v lead to %v, %d, want %v", o, day, list, moves, posted, why, l.Book)
			}
			if len(moves) > 3 {
				many++
			}
		}
	}
	if told < 200 || many < 20 {
		t.Errorf("%d operations were put in, %d of them with many moves", told, many)
	}
}

// 15.11: loans do not touch one another: the corrected loan is the same where the others never were, if they crowd nothing out.
func TestOtherLoansCountForNothing(t *testing.T) {
	random := rand.New(rand.NewSource(2354))
	for range 60 {
		p := anyPolicy(random)
		list, was := anyHistory(t, random, p, 50)
		for range 4 {
			day, o := anyLate(random, was)
			own := slices.DeleteFunc(slices.Clone(list), func(x api.Op) bool { return x.Kind != api.OpDay && x.Loan != o.Loan })
			l, change, why := backdate.Correct(p, list, day, o)
			alone, changeAlone, whyAlone := backdate.Correct(p, own, day, o)
			if !reflect.DeepEqual(l, alone) || change != changeAlone || why != whyAlone {
				t.Errorf("23.5: %+v on day %d in %+v: %+v, %v, %d, alone %+v, %v, %d", o, day, list, l, change, why, alone, changeAlone, whyAlone)
			}
		}
	}
}
