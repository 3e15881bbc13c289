package collect

import "arrears/api"

// machine plays events on a case: it holds the policy, the case as it stands, and the actions so far. A rule that refuses has changed nothing yet.
type machine struct {
	policy  api.Policy
	now     api.Case
	actions []int
}

// rule is the method that plays events of a kind.
func rule(kind int) (play func(m *machine, e api.Event) api.Errno, ok bool) {
	table := [...]func(m *machine, e api.Event) api.Errno{
		api.EventAge:         (*machine).age,
		api.EventPaid:        (*machine).paid,
		api.EventReturned:    (*machine).returned,
		api.EventPromise:     (*machine).promise,
		api.EventRestructure: (*machine).restructure,
		api.EventFee:         (*machine).fee,
		api.EventClose:       (*machine).shut,
	}
	// Number 0 is no kind, and nothing lies there.
	if kind < 1 || kind >= len(table) {
		return nil, false
	}
	return table[kind], true
}

// age plays the beginning of a day. Its steps go on from one another, so a day may break a promise, open a cycle and suspend interest all at once.
func (m *machine) age(e api.Event) api.Errno {
	switch {
	case !isDay(e.Today) || e.Days < 0:
		return api.ErrArg
	case m.over():
		return api.ErrClosed
	}
	if m.now.Status == api.Promised && e.Today > m.now.PromiseDue {
		m.breakPromise()
	}
	if Open(m.now) && e.Days == 0 {
		m.cure()
		return api.OK
	}
	if !Open(m.now) {
		m.lookForArrears(e)
	}
	if Open(m.now) && !m.now.Suspended && e.Days >= m.policy.NonAccrual {
		m.suspend()
	}
	if Open(m.now) && e.Today >= m.now.Deadline {
		m.endCycle(api.ChargedOff)
		m.act(api.ActChargeOff)
	}
	return api.OK
}

// paid plays a payment that was taken.
func (m *machine) paid(e api.Event) api.Errno {
	switch {
	case e.Amount < 1:
		return api.ErrAmount
	case e.Days < 0:
		return api.ErrArg
	case m.over():
		return api.ErrClosed
	}
	if m.now.Status == api.Promised {
		m.countToPromise(e.Amount)
	}
	switch {
	case Open(m.now) && e.Days == 0:
		m.cure()
	case m.now.Status == api.Grace && e.Days == 0:
		m.now.Status = api.Current
	}
	return api.OK
}

// returned plays a payment that was taken back.
func (m *machine) returned(e api.Event) api.Errno {
	switch {
	case e.Amount < 1:
		return api.ErrAmount
	case m.over():
		return api.ErrClosed
	}
	if m.now.Status == api.Promised {
		m.now.PromiseGot -= min(e.Amount, m.now.PromiseGot)
	}
	return api.OK
}

// promise plays a promise to pay. It moves the deadline on by its days, so that the charge-off cuts off no promise that was taken ahead of it.
func (m *machine) promise(e api.Event) api.Errno {
	switch {
	case !isDay(e.Today) || e.Days < 1 || e.Days > m.policy.PromiseDays:
		return api.ErrArg
	case e.Amount < 1:
		return api.ErrAmount
	case m.over():
		return api.ErrClosed
	case !Open(m.now):
		return api.ErrNotOpen
	case m.now.Status == api.Promised:
		return api.ErrActive
	case m.now.Promises >= m.policy.Promises:
		return api.ErrBudget
	}
	m.now.Promises++
	m.now.PromiseDue, m.now.PromiseAmount, m.now.PromiseGot = e.Today+e.Days, e.Amount, 0
	m.now.Deadline += e.Days
	m.now.Status = api.Promised
	return api.OK
}

// restructure plays the making of a new plan.
func (m *machine) restructure(api.Event) api.Errno {
	switch {
	case m.over():
		return api.ErrClosed
	case !Open(m.now):
		return api.ErrNotOpen
	case m.now.Restructures >= m.policy.Restructures:
		return api.ErrBudget
	}
	m.now.Restructures++
	m.endCycle(api.Restructured)
	m.act(api.ActRestructured)
	return api.OK
}

// fee plays a late fee. It is held against what the caps leave, for a sum with the amount could wrap.
func (m *machine) fee(e api.Event) api.Errno {
	switch {
	case e.Amount < 1:
		return api.ErrAmount
	case m.over():
		return api.ErrClosed
	case !Open(m.now):
		return api.ErrNotOpen
	case m.now.Status == api.Promised:
		return api.ErrActive
	case e.Amount > m.policy.CycleCap-m.now.CycleFees || e.Amount > m.policy.LifeCap-m.now.LifeFees:
		return api.ErrBudget
	}
	m.now.CycleFees += e.Amount
	m.now.LifeFees += e.Amount
	return api.OK
}

// shut plays that nothing is owed any more.
func (m *machine) shut(api.Event) api.Errno {
	if m.over() {
		return api.ErrClosed
	}
	if Open(m.now) {
		m.cure()
	}
	m.now.Status = api.Closed
	m.act(api.ActClosed)
	return api.OK
}

// isDay tells whether a number is a day's.
func isDay(n int) bool {
	return n >= 1 && n <= api.MaxDay
}

// over tells whether the case is in a status that no event leaves.
func (m *machine) over() bool {
	return m.now.Status == api.ChargedOff || m.now.Status == api.Closed
}

// act puts an action behind the others.
func (m *machine) act(action int) {
	m.actions = append(m.actions, action)
}

// lookForArrears finds what the days past due make of a case without an open cycle.
func (m *machine) lookForArrears(e api.Event) {
	switch {
	case e.Days > m.policy.Grace:
		m.openCycle(e.Today)
	case e.Days > 0:
		m.now.Status = api.Grace
	case m.now.Status == api.Grace:
		m.now.Status = api.Current
	}
}

// openCycle opens a cycle on a day.
func (m *machine) openCycle(today int) {
	m.now.Cycles++
	m.now.Since, m.now.Deadline = today, today+m.policy.ChargeOff
	m.now.Promises, m.now.CycleFees = 0, 0
	m.now.Status = api.Delinquent
	m.act(api.ActDelinquent)
}

// suspend lets interest go into suspense. A promise outlives it.
func (m *machine) suspend() {
	m.now.Suspended = true
	if m.now.Status == api.Delinquent {
		m.now.Status = api.NonAccrual
	}
	m.act(api.ActNonAccrual)
}

// countToPromise counts a payment to the active promise, which is kept once it is full.
func (m *machine) countToPromise(amount int64) {
	missing := m.now.PromiseAmount - m.now.PromiseGot
	if amount < missing {
		m.now.PromiseGot += amount
		return
	}
	m.now.Kept++
	m.endPromise()
	m.act(api.ActKept)
}

// breakPromise notes that the active promise's last day went by.
func (m *machine) breakPromise() {
	m.now.Broken++
	m.endPromise()
	m.act(api.ActBroken)
}

// endPromise clears the promise and falls back to where the cycle stood without it.
func (m *machine) endPromise() {
	m.clearPromise()
	m.now.Status = api.Delinquent
	if m.now.Suspended {
		m.now.Status = api.NonAccrual
	}
}

// clearPromise forgets what was promised.
func (m *machine) clearPromise() {
	m.now.PromiseDue, m.now.PromiseAmount, m.now.PromiseGot = 0, 0, 0
}

// cure ends the cycle because nothing is past due any more.
func (m *machine) cure() {
	m.now.Cures++
	m.endCycle(api.Cured)
	m.act(api.ActCured)
}

// endCycle forgets what belongs to the open cycle alone; the counts of the life stay.
func (m *machine) endCycle(status int) {
	m.clearPromise()
	m.now.Suspended = false
	m.now.Since, m.now.Deadline, m.now.Promises, m.now.CycleFees = 0, 0, 0, 0
	m.now.Status = status
}
