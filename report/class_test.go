package report_test

import (
	"maps"
	"slices"
	"testing"

	"arrears/api"
	"arrears/engine"
	"arrears/report"
)

// lastDay is how many days behind the first one the portfolios of classes are looked at.
const lastDay = 200

// opened are the days, behind the first one, on which a loan of one row is opened so that it is of this class on the last day, if nothing is paid. (The row is due a month later; a loan of class 6 is paid off at once.)
var opened = [7]int{190, 154, 124, 94, 68, 0, 0}

// slow is a policy under which a loan that nobody pays is charged off with 111 days past due, and pays no late fees.
func slow() api.Policy {
	return with(func(p *api.Policy) { p.NonAccrual, p.ChargeOff, p.LateRate, p.LateMin = 365, 100, 0, 0 })
}

// sized is a class and a principal.
type sized struct {
	class  int
	amount int64
}

// classed is a portfolio in which the loan of each number is of a class, with a principal and no rate.
func classed(t *testing.T, loans map[int]sized) api.State {
	t.Helper()
	var ops []api.Op
	for day := range lastDay {
		for _, number := range slices.Sorted(maps.Keys(loans)) {
			l := loans[number]
			if opened[l.class] != day {
				continue
			}
			ops = append(ops, open(number, l.amount, 0, 1, api.PlanEqual))
			if l.class == 6 {
				ops = append(ops, pay(number, l.amount))
			}
		}
		ops = append(ops, days(1))
	}
	return lived(t, slow(), ops...)
}

// resumed is an engine that goes on from a portfolio.
func resumed(t *testing.T, p api.Policy, s api.State) *engine.Engine {
	t.Helper()
	e, why := engine.Load(p, s)
	if why != api.OK {
		t.Fatalf("15.2: Load = %d", why)
	}
	return e
}

// isOf holds Class of a loan to its class.
func isOf(t *testing.T, p api.Policy, l api.Loan, want int) {
	t.Helper()
	if got := report.Class(p, l); got != want {
		t.Errorf("21.4: Class of loan %d on %d = %d, want %d", l.ID, l.Day, got, want)
	}
}

// 21.4: the class of each status: the bucket, but of a loan that is over.
func TestClassOfEveryStatus(t *testing.T) {
	p, s := everyStatus(t)
	for i, want := range []int{0, 1, 6, 1, 1, 2, 0, 0, 5} {
		isOf(t, p, s.Loans[i], want)
	}
}

// 21.4: the class of each number of days past due, at the edges of the buckets.
func TestClassAtTheEdges(t *testing.T) {
	e := resumed(t, slow(), lived(t, slow(), open(7, 100, 0, 1, api.PlanEqual)))
	for day := range 150 {
		late := day - 31
		want := 0
		for _, edge := range []int{1, 30, 60, 90, 111} {
			if late >= edge {
				want++
			}
		}
		isOf(t, slow(), e.Save().Loans[0], want)
		e.Apply(days(1))
	}
	// What still comes in is a recovery: the loan stays charged off, also when all of it has come.
	for _, amount := range []int64{50, 50, 50} {
		e.Apply(pay(7, amount))
		isOf(t, slow(), e.Save().Loans[0], 5)
	}
}

// 21, 21.4: under a policy that may not be the class is that of the status alone: 5, 6 or 0.
func TestClassUnderRefusedPolicies(t *testing.T) {
	_, s := everyStatus(t)
	for _, p := range refused() {
		for i, want := range []int{0, 0, 6, 0, 0, 0, 0, 0, 5} {
			isOf(t, p, s.Loans[i], want)
		}
	}
}

// 21.5: from each class to each class; the row is the class before, the column the class after.
func TestRollFromEachToEach(t *testing.T) {
	for half := range 2 {
		before, after := map[int]sized{}, map[int]sized{}
		var want [7][7]int
		for number := 1; number <= 25; number++ {
			pair := (25*half + number - 1) % 49
			from, to := pair/7, pair%7
			before[number], after[number] = sized{from, 100}, sized{to, 200}
			want[from][to]++
		}
		rolls(t, slow(), classed(t, before), classed(t, after), want)
	}
}

// 21.5: several loans of the same classes are counted together.
func TestRollCounts(t *testing.T) {
	before, after := map[int]sized{}, map[int]sized{}
	for number := 1; number <= 32; number++ {
		before[number], after[number] = sized{1 + number%2, 5}, sized{2 + number/11%2, 5}
	}
	// 1 to 10 and 22 to 32 come to class 2, 11 to 21 to class 3.
	var want [7][7]int
	want[1][2], want[1][3], want[2][2], want[2][3] = 11, 5, 10, 6
	rolls(t, slow(), classed(t, before), classed(t, after), want)
}

// 21.5: a loan that is in one of the two alone is not counted, wherever the others lie.
func TestRollOfOtherLoans(t *testing.T) {
	before := classed(t, map[int]sized{1: {1, 5}, 5: {2, 5}, 6: {0, 5}, 70: {4, 5}, 80: {5, 5}})
	after := classed(t, map[int]sized{2: {1, 5}, 6: {3, 5}, 7: {2, 5}, 70: {6, 5}, 99: {6, 5}})
	var want, back [7][7]int
	want[0][3], want[4][6] = 1, 1
	back[3][0], back[6][4] = 1, 1
	rolls(t, slow(), before, after, want)
	rolls(t, slow(), after, before, back)
	for _, none := range []api.State{{}, {Today: first, Loans: []api.Loan{}}} {
		rolls(t, slow(), before, none, [7][7]int{})
		rolls(t, slow(), none, before, [7][7]int{})
		rolls(t, slow(), none, none, [7][7]int{})
	}
}

// 21, 21.5: under a policy that may not be a loan that is not over is counted as of class 0.
func TestRollUnderRefusedPolicies(t *testing.T) {
	before := classed(t, map[int]sized{1: {1, 5}, 2: {2, 5}, 3: {3, 5}, 4: {4, 5}, 5: {5, 5}, 6: {6, 5}, 7: {0, 5}})
	after := classed(t, map[int]sized{1: {5, 5}, 2: {3, 5}, 3: {6, 5}, 4: {4, 5}, 5: {5, 5}, 6: {6, 5}, 8: {0, 5}})
	var want [7][7]int
	want[0][5], want[0][0], want[0][6], want[5][5], want[6][6] = 1, 2, 1, 1, 1
	for _, p := range refused() {
		rolls(t, p, before, after, want)
		rolls(t, p, api.State{}, after, [7][7]int{})
		rolls(t, p, before, api.State{}, [7][7]int{})
	}
}
