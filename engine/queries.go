package engine

import (
	"arrears/api"
	"arrears/ledger"
	"arrears/loan"
	"arrears/money"
)

// buckets is how many classes of days past due there are.
const buckets = 5

// answer finds the numbers that a query asks for.
func (e *Engine) answer(o api.Op) ([]int64, api.Errno) {
	table := [...]func(o api.Op) ([]int64, api.Errno){
		api.OpLoan:    e.askLoan,
		api.OpPlan:    e.askPlan,
		api.OpBooks:   e.askBooks,
		api.OpAging:   e.askAging,
		api.OpNotices: e.askNotices,
		api.OpTimers:  e.askTimers,
		api.OpToday:   e.askToday,
	}
	if o.Kind < api.OpLoan || o.Kind >= len(table) {
		return nil, api.ErrKind
	}
	return table[o.Kind](o)
}

// askLoan tells a loan's view, field by field.
func (e *Engine) askLoan(o api.Op) ([]int64, api.Errno) {
	l, there := e.loans[o.Loan]
	if !there {
		return nil, api.ErrNoLoan
	}
	v := loan.Look(e.policy, l)
	return []int64{
		int64(v.Status), int64(v.Days), int64(v.Bucket),
		v.PastDue, v.Fees, v.Interest, v.Principal, v.Unapplied, v.Suspense,
		int64(v.Cycles), int64(v.Cures), int64(v.Kept), int64(v.Broken), int64(v.Restructures), int64(v.Promises),
		int64(v.PromiseDue), int64(v.Deadline), int64(v.NextDue),
		v.LifeFees, v.ChargedOff, v.Recovered,
	}, api.OK
}

// askPlan tells a loan's plan, row by row.
func (e *Engine) askPlan(o api.Op) ([]int64, api.Errno) {
	l, there := e.loans[o.Loan]
	if !there {
		return nil, api.ErrNoLoan
	}
	var nums []int64
	for _, row := range l.Plan {
		marked := int64(0)
		if row.Marked {
			marked = 1
		}
		nums = append(nums, int64(row.Due), row.Interest, row.Principal, marked)
	}
	return nums, api.OK
}

// askBooks tells the balances of all loans' books together.
func (e *Engine) askBooks(api.Op) ([]int64, api.Errno) {
	var books []api.Book
	for _, number := range e.numbers() {
		books = append(books, e.loans[number].Book)
	}
	all, fits := ledger.Total(books)
	if !fits {
		return nil, api.ErrRange
	}
	var nums []int64
	for account := range api.Accounts {
		cents, why := ledger.Balance(all, account)
		if why != api.OK {
			return nil, why
		}
		nums = append(nums, cents)
	}
	return nums, api.OK
}

// askAging tells how many loans are how late, and what is owed on them.
func (e *Engine) askAging(api.Op) ([]int64, api.Errno) {
	var principals [buckets][]int64
	var closed, chargedOff int64
	for _, number := range e.numbers() {
		l := e.loans[number]
		switch l.Case.Status {
		case api.Closed:
			closed++
		case api.ChargedOff:
			chargedOff++
		default:
			v := loan.Look(e.policy, l)
			principals[v.Bucket] = append(principals[v.Bucket], v.Principal)
		}
	}
	var nums []int64
	for _, list := range principals {
		total, fits := money.Sum(list)
		if !fits {
			return nil, api.ErrRange
		}
		nums = append(nums, int64(len(list)), total)
	}
	return append(nums, closed, chargedOff), api.OK
}

// askNotices tells how many notices there are, and how many are acknowledged.
func (e *Engine) askNotices(api.Op) ([]int64, api.Errno) {
	return []int64{int64(len(e.notices)), int64(e.marked)}, api.OK
}

// askTimers tells the timers that wait.
func (e *Engine) askTimers(api.Op) ([]int64, api.Errno) {
	var nums []int64
	for _, t := range e.Timers() {
		nums = append(nums, int64(t.Day), int64(t.Loan), int64(t.Kind))
	}
	return nums, api.OK
}

// askToday tells the day, and how many loans there are.
func (e *Engine) askToday(api.Op) ([]int64, api.Errno) {
	return []int64{int64(e.today), int64(len(e.loans))}, api.OK
}
