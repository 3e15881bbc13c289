package engine

import (
	"maps"
	"slices"

	"arrears/api"
	"arrears/loan"
	"arrears/timerq"
)

// stock is the loans of a portfolio, and the queue of their timers, by which they are led from day to day.
type stock struct {
	policy api.Policy
	loans  map[int]api.Loan        // by their numbers; a plan that lies here is never written to
	timers *timerq.Queue[struct{}] // those of the loans as they stand
}

// newStock is a stock without loans.
func newStock(p api.Policy) stock {
	p.Holidays = slices.Clone(p.Holidays)
	return stock{policy: p, loans: map[int]api.Loan{}, timers: timerq.New[struct{}]()}
}

// numbers are those of all loans, rising.
func (s stock) numbers() []int {
	var numbers []int
	for number := range s.loans {
		numbers = append(numbers, number)
	}
	slices.Sort(numbers)
	return numbers
}

// put lays a loan into the stock, in the place of the one that has its number, and its timers in the place of that one's.
func (s stock) put(l api.Loan) {
	if old, there := s.loans[l.ID]; there {
		for _, t := range loan.Timers(s.policy, old) {
			s.timers.Cancel(t)
		}
	}
	s.loans[l.ID] = l
	for _, t := range loan.Timers(s.policy, l) {
		s.timers.Put(t, struct{}{})
	}
}

// trial is a stock of the same loans that may be led on and dropped.
func (s stock) trial() stock {
	t := stock{policy: s.policy, loans: maps.Clone(s.loans), timers: timerq.New[struct{}]()}
	for _, key := range s.timers.List() {
		t.timers.Put(key, struct{}{})
	}
	return t
}

// lead brings all loans to a later day, and tells them by rising number, and the notices that this makes owed, by the day and then by the loan. It goes from timer to timer: up to its next one a loan has its interest alone, and is left behind until then.
func (s stock) lead(last int) ([]api.Loan, []api.Notice, api.Errno) {
	var notices []api.Notice
	for next, _, due := s.timers.PopDue(last); due; next, _, due = s.timers.PopDue(last) {
		turned, why := s.turn(next, last)
		if why != api.OK {
			return nil, nil, why
		}
		notices = append(notices, turned...)
	}
	var loans []api.Loan
	for _, number := range s.numbers() {
		l, why := s.accrued(number, last)
		if why != api.OK {
			return nil, nil, why
		}
		loans = append(loans, l)
	}
	return loans, notices, api.OK
}

// turn brings a loan to the day of its timer, on which more than interest may happen to it.
func (s stock) turn(next api.Timer, last int) ([]api.Notice, api.Errno) {
	// Only a loan that no call made has a timer on a day that it has behind it: it is looked at on its next day, if there is one.
	day := max(next.Day, s.loans[next.Loan].Day+1)
	if day > last {
		return nil, api.OK
	}
	l, why := s.accrued(next.Loan, day-1)
	if why != api.OK {
		return nil, why
	}
	o := loan.Roll(s.policy, l)
	if o.Err != api.OK {
		return nil, o.Err
	}
	s.put(o.Loan)
	return o.Notices, api.OK
}

// accrued is a loan brought to a day by its interest alone.
func (s stock) accrued(number, day int) (api.Loan, api.Errno) {
	l := s.loans[number]
	o := loan.Accrue(s.policy, l, day-l.Day)
	return o.Loan, o.Err
}
