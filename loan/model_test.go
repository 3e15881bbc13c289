package loan_test

import (
	"math/big"
	"slices"

	"arrears/api"
	"arrears/collect"
	"arrears/interest"
	"arrears/loan"
	"arrears/policy"
)

// model is a loan as the chapter's words say it: each account's own balance lies by its number, and rows, days and moves are reckoned from the front, one after the other. It asks the layers below for plans, fees and cases alone.
type model struct {
	p          api.Policy
	id         int
	terms      api.Terms
	plan       []api.Instalment
	has        map[int]*big.Int
	c          api.Case
	day        int
	carry      *big.Int
	applied    int64
	last       *api.Parts
	chargedOff int64
	told       []api.Notice
}

// copied is a model that may be spoilt.
func (m *model) copied() *model {
	n := *m
	n.plan, n.has, n.carry, n.told = slices.Clone(m.plan), map[int]*big.Int{}, new(big.Int).Set(m.carry), nil
	for account, x := range m.has {
		n.has[account] = new(big.Int).Set(x)
	}
	if m.last != nil {
		last := *m.last
		n.last = &last
	}
	return &n
}

// standard is the side that an account grows on: 1 debit, -1 credit.
func standard(account int) int64 {
	switch account {
	case api.Cash, api.Principal, api.Interest, api.Fees, api.Loss, api.Waived:
		return 1
	}
	return -1
}

// loan is the loan that the model stands for.
func (m *model) loan() api.Loan {
	l := api.Loan{
		ID: m.id, Terms: m.terms, Plan: m.plan, Case: m.c, Day: m.day, Carry: m.carry.Int64(),
		Applied: m.applied, ChargedOff: m.chargedOff,
	}
	for account := range l.Book.Net {
		l.Book.Net[account] = standard(account) * m.of(account)
	}
	if m.last != nil {
		l.Last, l.HasLast = *m.last, true
	}
	return l
}

// of is an account's balance.
func (m *model) of(account int) int64 {
	if m.has[account] == nil {
		return 0
	}
	return m.has[account].Int64()
}

// move debits one account and credits another.
func (m *model) move(debit, credit int, amount int64) {
	for account, side := range map[int]int64{debit: 1, credit: -1} {
		if m.has[account] == nil {
			m.has[account] = new(big.Int)
		}
		m.has[account].Add(m.has[account], big.NewInt(side*standard(account)*amount))
	}
}

// fits tells whether every account may stand as it does.
func (m *model) fits() bool {
	for _, x := range m.has {
		if !x.IsInt64() || x.Sign() < 0 {
			return false
		}
	}
	return true
}

func (m *model) over() bool { return m.c.Status == api.Closed || m.c.Status == api.ChargedOff }

// rest is what is still owed on the plan.
func (m *model) rest() int64 { return m.of(api.Interest) + m.of(api.Principal) }

// open are the rows that are not satisfied, by their numbers.
func (m *model) open() []int {
	var rows []int
	left := m.applied
	for i, row := range m.plan {
		left -= row.Interest + row.Principal
		if m.rest() > 0 && (left < 0 || i == len(m.plan)-1 || len(rows) > 0) {
			rows = append(rows, i)
		}
	}
	return rows
}

// daysOn are the days past due on a day.
func (m *model) daysOn(day int) int {
	rows := m.open()
	if len(rows) == 0 || m.plan[rows[0]].Due >= day {
		return 0
	}
	return day - m.plan[rows[0]].Due
}

// pastDue is what the rows ahead of today come to, less what was paid on them.
func (m *model) pastDue() int64 {
	due := -m.applied
	for _, row := range m.plan {
		if row.Due < m.day {
			due += row.Interest + row.Principal
		}
	}
	if m.plan[len(m.plan)-1].Due < m.day {
		due = m.rest()
	}
	return max(0, min(due, m.rest()))
}

func (m *model) notice(kind int, amount int64) {
	m.told = append(m.told, api.Notice{Loan: m.id, Kind: kind, Day: m.day, Amount: amount})
}

// event plays an event, and does the table of the chapter.
func (m *model) event(e api.Event) api.Errno {
	next, acts, why := collect.Step(m.p, m.c, e)
	if why != api.OK {
		return why
	}
	m.c = next
	for _, act := range acts {
		switch act {
		case 1, 2, 3:
			m.notice(act, m.pastDue())
		case 6:
			m.move(api.Suspense, api.Income, m.of(api.Suspense))
			m.notice(api.NoticeCured, 0)
		case 8:
			m.last = nil
			m.notice(api.NoticePaidOff, 0)
		case 4:
			m.giveUp()
		}
	}
	return api.OK
}

// giveUp empties the loan's accounts cent by cent of their sort: interest that is in suspense first.
func (m *model) giveUp() {
	m.chargedOff = m.of(api.Fees) + m.rest()
	back := min(m.of(api.Suspense), m.of(api.Interest))
	m.move(api.Suspense, api.Interest, back)
	m.move(api.Suspense, api.Income, m.of(api.Suspense))
	for _, account := range []int{api.Fees, api.Interest, api.Principal} {
		m.move(api.Loss, account, m.of(account))
	}
	m.last = nil
	m.notice(api.NoticeChargedOff, m.chargedOff)
}

// settle closes the loan, if nothing is owed.
func (m *model) settle() api.Errno {
	if m.of(api.Fees) == 0 && m.rest() == 0 {
		return m.event(api.Event{Kind: api.EventClose})
	}
	return api.OK
}

// turn is the accounts in the order in which they are paid.
func turn(order int) []int {
	return [][]int{{3, 2, 1}, {3, 1, 2}, {2, 3, 1}, {2, 1, 3}, {1, 3, 2}, {1, 2, 3}}[order]
}

// pay takes a payment apart.
func (m *model) pay(amount int64) (api.Parts, api.Errno) {
	if amount < 1 {
		return api.Parts{}, api.ErrAmount
	}
	got, left := map[int]int64{}, amount
	take := func(account int, owed int64) {
		got[account] = min(left, owed)
		left -= got[account]
	}
	switch {
	case m.c.Status == api.ChargedOff:
		take(api.Recovery, m.chargedOff-m.of(api.Recovery))
	case m.c.Status != api.Closed:
		for _, account := range turn(m.p.Order) {
			take(account, m.of(account))
		}
	}
	got[api.Unapplied] = left
	for account, part := range got {
		m.move(api.Cash, account, part)
	}
	parts := api.Parts{Fees: got[3], Interest: got[2], Principal: got[1], Unapplied: got[4], Recovery: got[10]}
	if !m.fits() {
		return parts, api.ErrRange
	}
	if m.over() {
		return parts, api.OK
	}
	m.applied += got[1] + got[2]
	m.last = &parts
	m.event(api.Event{Kind: api.EventPaid, Amount: amount, Days: m.daysOn(m.day)})
	return parts, m.settle()
}

// giveBack takes the last payment back.
func (m *model) giveBack() (api.Parts, api.Errno) {
	if m.over() {
		return api.Parts{}, api.ErrClosed
	}
	if m.last == nil {
		return api.Parts{}, api.ErrNoPay
	}
	last := *m.last
	m.move(api.Fees, api.Cash, last.Fees)
	m.move(api.Interest, api.Cash, last.Interest)
	m.move(api.Principal, api.Cash, last.Principal)
	m.applied -= last.Interest + last.Principal
	amount := last.Fees + last.Interest + last.Principal
	m.event(api.Event{Kind: api.EventReturned, Amount: amount})
	m.notice(api.NoticeReturned, amount)
	m.last = nil
	return last, api.OK
}

// anew gives the loan a new plan.
func (m *model) anew(count int, rate int64) api.Errno {
	if count < 1 || count > 120 || rate < 0 || rate > 100000 {
		return api.ErrTerms
	}
	if why := m.event(api.Event{Kind: api.EventRestructure}); why != api.OK {
		return why
	}
	terms := m.terms
	terms.Principal, terms.Rate, terms.Count, terms.Start = m.of(api.Fees)+m.rest(), rate, count, m.day
	if terms.Principal > 10000000000000 {
		return api.ErrRange
	}
	plan, ok := interest.Plan(terms, m.p.Holidays)
	if !ok {
		return api.ErrDate
	}
	m.terms, m.plan, m.applied, m.last = terms, plan, 0, nil
	m.move(api.Principal, api.Interest, m.of(api.Interest))
	m.move(api.Principal, api.Fees, m.of(api.Fees))
	m.move(api.Suspense, api.Income, m.of(api.Suspense))
	m.notice(api.NoticeRestructured, terms.Principal)
	return api.OK
}

// earn lets days go by, one after the other.
func (m *model) earn(days int) api.Errno {
	if days < 0 {
		return api.ErrArg
	}
	if days > api.MaxDay-m.day {
		return api.ErrDate
	}
	for range days {
		m.day++
		if m.over() {
			continue
		}
		n := new(big.Int).Mul(big.NewInt(m.of(api.Principal)), big.NewInt(m.terms.Rate))
		cents := new(big.Int)
		cents.DivMod(n.Add(n, m.carry), big.NewInt(3650000), m.carry)
		if m.c.Suspended {
			m.move(api.Interest, api.Suspense, cents.Int64())
		} else {
			m.move(api.Interest, api.Income, cents.Int64())
		}
	}
	return api.OK
}

// roll is a day with all that may come of it.
func (m *model) roll() api.Errno {
	if why := m.earn(1); why != api.OK || m.over() {
		return why
	}
	m.event(api.Event{Kind: api.EventAge, Today: m.day, Days: m.daysOn(m.day)})
	if m.c.Status != api.Delinquent && m.c.Status != api.NonAccrual {
		return api.OK
	}
	for _, i := range m.open() {
		row := &m.plan[i]
		if row.Marked || m.day-row.Due <= m.p.Grace {
			continue
		}
		row.Marked = true
		if fee := policy.Assess(m.p, row.Interest+row.Principal, m.c.CycleFees, m.c.LifeFees); fee > 0 {
			m.event(api.Event{Kind: api.EventFee, Amount: fee})
			m.move(api.Fees, api.FeeIncome, fee)
			m.notice(api.NoticeFee, fee)
		}
	}
	return api.OK
}

// first is the next day with so many days past due, found by asking day by day.
func (m *model) first(days int) (int, bool) {
	if len(m.open()) == 0 {
		return 0, false
	}
	day := m.day + 1
	for m.daysOn(day) < days {
		day++
	}
	return day, true
}

// timers are gathered kind by kind, and put in order by their days.
func (m *model) timers() []api.Timer {
	var list []api.Timer
	put := func(kind, day int, there bool) {
		if there && !m.over() {
			list = append(list, api.Timer{Day: day, Loan: m.id, Kind: kind})
		}
	}
	open := m.c.Status >= api.Delinquent && m.c.Status <= api.NonAccrual
	put(api.TimerPromise, m.c.PromiseDue+1, m.c.Status == api.Promised)
	if !open {
		next := 1
		if m.c.Status == api.Grace {
			next = m.p.Grace + 1
		}
		day, ok := m.first(next)
		put(api.TimerAge, day, ok)
	} else {
		day, ok := m.first(m.p.NonAccrual)
		put(api.TimerNonAccrual, day, ok && !m.c.Suspended)
		put(api.TimerChargeOff, m.c.Deadline, true)
		for _, i := range m.open() {
			if !m.plan[i].Marked {
				day := max(m.plan[i].Due+m.p.Grace+1, m.day+1)
				if m.c.Status == api.Promised {
					day = max(day, m.c.PromiseDue+1)
				}
				put(api.TimerFee, day, true)
				break
			}
		}
	}
	slices.SortStableFunc(list, func(a, b api.Timer) int { return a.Day - b.Day })
	return list
}

// view is what a query tells.
func (m *model) view() api.View {
	v := api.View{
		Status: m.c.Status, Days: m.daysOn(m.day), PastDue: m.pastDue(),
		Fees: m.of(3), Interest: m.of(2), Principal: m.of(1), Unapplied: m.of(4), Suspense: m.of(5),
		Cycles: m.c.Cycles, Cures: m.c.Cures, Kept: m.c.Kept, Broken: m.c.Broken, Restructures: m.c.Restructures, Promises: m.c.Promises,
		PromiseDue: m.c.PromiseDue, Deadline: m.c.Deadline, LifeFees: m.c.LifeFees, ChargedOff: m.chargedOff, Recovered: m.of(10),
	}
	for _, from := range []int{1, 30, 60, 90} {
		if v.Days >= from {
			v.Bucket++
		}
	}
	if rows := m.open(); len(rows) > 0 {
		v.NextDue = m.plan[rows[0]].Due
	}
	return v
}

// step is one call on a loan, by the word for it.
type step struct {
	word        string
	amount      int64
	days, count int
	rate        int64
}

// asked is what the program answers to a step.
func (s step) asked(p api.Policy, l api.Loan) api.Outcome {
	switch s.word {
	case "pay":
		return loan.Pay(p, l, s.amount)
	case "return":
		return loan.Return(p, l)
	case "refund":
		return loan.Refund(p, l, s.amount)
	case "waive":
		return loan.Waive(p, l, s.amount)
	case "promise":
		return loan.Promise(p, l, s.amount, s.days)
	case "restructure":
		return loan.Restructure(p, l, s.count, s.rate)
	case "accrue":
		return loan.Accrue(p, l, s.days)
	}
	return loan.Roll(p, l)
}

// does plays a step on the model: the model behind it, and what is answered.
func (m *model) does(s step) (*model, api.Outcome) {
	n := m.copied()
	var o api.Outcome
	switch s.word {
	case "pay":
		o.Parts, o.Err = n.pay(s.amount)
	case "return":
		o.Parts, o.Err = n.giveBack()
	case "refund":
		o.Err = n.out(s.amount, api.Unapplied, api.Unapplied, api.Cash)
	case "waive":
		o.Err = n.waive(s.amount)
	case "promise":
		o.Err = n.event(api.Event{Kind: api.EventPromise, Today: n.day, Days: s.days, Amount: s.amount})
	case "restructure":
		o.Err = n.anew(s.count, s.rate)
	case "accrue":
		o.Err = n.earn(s.days)
	default:
		o.Err = n.roll()
	}
	if o.Err != api.OK {
		return m, api.Outcome{Loan: m.loan(), Err: o.Err}
	}
	o.Loan, o.Notices = n.loan(), n.told
	return n, o
}

// out moves an amount, if the account has it.
func (m *model) out(amount int64, account, debit, credit int) api.Errno {
	if amount < 1 {
		return api.ErrAmount
	}
	if amount > m.of(account) {
		return api.ErrFunds
	}
	m.move(debit, credit, amount)
	return api.OK
}

// waive lets fees go.
func (m *model) waive(amount int64) api.Errno {
	if amount >= 1 && m.over() {
		return api.ErrClosed
	}
	if why := m.out(amount, api.Fees, api.Waived, api.Fees); why != api.OK {
		return why
	}
	return m.settle()
}
