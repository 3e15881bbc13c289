package engine_test

import (
	"math/big"
	"math/rand"
	"slices"
	"testing"

	"arrears/api"
	"arrears/loan"
)

// model is a portfolio as the chapter's words say it: the loans lie in a list, every one is rolled on every day, and nothing knows of a queue.
type model struct {
	p api.Policy
	s api.State
}

// place is where a loan lies, -1 if there is none of that number.
func (m *model) place(number int) int {
	return slices.IndexFunc(m.s.Loans, func(l api.Loan) bool { return l.ID == number })
}

// tell lays notices behind the others.
func (m *model) tell(list []api.Notice) {
	for _, n := range list {
		n.ID = len(m.s.Notices) + 1
		m.s.Notices = append(m.s.Notices, n)
	}
}

// does does an operation.
func (m *model) does(o api.Op) api.Reply {
	switch o.Kind {
	case api.OpOpen:
		return m.opens(o)
	case api.OpPay, api.OpReturn, api.OpRefund, api.OpWaive, api.OpPromise, api.OpRestructure:
		return m.changes(o)
	case api.OpDay:
		return m.passes(o.Days)
	}
	return api.Reply{Err: api.ErrKind}
}

func (m *model) opens(o api.Op) api.Reply {
	if o.Loan < 1 || o.Loan > 999999 {
		return api.Reply{Err: api.ErrArg}
	}
	if m.place(o.Loan) >= 0 {
		return api.Reply{Err: api.ErrExists}
	}
	if len(m.s.Loans) == 32 {
		return api.Reply{Err: api.ErrCrowd}
	}
	t := api.Terms{Kind: o.Days, Principal: o.Amount, Rate: o.Rate, Count: o.Count, Start: m.s.Today, Rule: m.p.Rule}
	made := loan.Open(m.p, o.Loan, t)
	if made.Err != api.OK {
		return api.Reply{Err: made.Err}
	}
	at := 0
	for at < len(m.s.Loans) && m.s.Loans[at].ID < o.Loan {
		at++
	}
	m.s.Loans = slices.Insert(m.s.Loans, at, made.Loan)
	row := made.Loan.Plan[0]
	return api.Reply{Nums: []int64{int64(len(made.Loan.Plan)), int64(row.Due), row.Interest + row.Principal}}
}

// changes does an operation on one loan.
func (m *model) changes(o api.Op) api.Reply {
	at := m.place(o.Loan)
	if at < 0 {
		return api.Reply{Err: api.ErrNoLoan}
	}
	l, trace := m.s.Loans[at], m.s.Loans[at].Trace
	var out api.Outcome
	switch o.Kind {
	case api.OpPay:
		if o.Count < 0 {
			return api.Reply{Err: api.ErrArg}
		}
		if o.Count != 0 && o.Count <= trace {
			return api.Reply{Err: api.ErrExists}
		}
		out, trace = loan.Pay(m.p, l, o.Amount), max(trace, o.Count)
	case api.OpReturn:
		out = loan.Return(m.p, l)
	case api.OpRefund:
		out = loan.Refund(m.p, l, o.Amount)
	case api.OpWaive:
		out = loan.Waive(m.p, l, o.Amount)
	case api.OpPromise:
		out = loan.Promise(m.p, l, o.Amount, o.Days)
	case api.OpRestructure:
		out = loan.Restructure(m.p, l, o.Count, o.Rate)
	}
	if out.Err != api.OK {
		return api.Reply{Err: out.Err}
	}
	out.Loan.Trace = trace
	m.s.Loans[at] = out.Loan
	m.tell(out.Notices)
	return api.Reply{Nums: numbers(o.Kind, out)}
}

// numbers are what stands behind an operation on one loan.
func numbers(kind int, out api.Outcome) []int64 {
	l, p := out.Loan, out.Parts
	status := int64(l.Case.Status)
	switch kind {
	case api.OpPay:
		return []int64{p.Fees, p.Interest, p.Principal, p.Unapplied, p.Recovery, status}
	case api.OpReturn:
		return []int64{p.Fees + p.Interest + p.Principal + p.Unapplied + p.Recovery, status}
	case api.OpRefund:
		return []int64{-l.Book.Net[api.Unapplied]}
	case api.OpWaive:
		return []int64{l.Book.Net[api.Fees], status}
	case api.OpPromise:
		return []int64{int64(l.Case.PromiseDue), int64(l.Case.Deadline)}
	}
	row := l.Plan[0]
	return []int64{l.Terms.Principal, int64(len(l.Plan)), int64(row.Due), row.Interest + row.Principal}
}

// passes rolls every loan on every day.
func (m *model) passes(count int) api.Reply {
	if count < 1 || count > 60 {
		return api.Reply{Err: api.ErrArg}
	}
	if m.s.Today > 3652059-count {
		return api.Reply{Err: api.ErrDate}
	}
	before := len(m.s.Notices)
	for range count {
		for i, l := range m.s.Loans {
			out := loan.Roll(m.p, l)
			m.s.Loans[i] = out.Loan
			m.tell(out.Notices)
		}
		m.s.Today++
	}
	return api.Reply{Nums: []int64{int64(m.s.Today), int64(len(m.s.Notices) - before)}}
}

// asks answers a query.
func (m *model) asks(o api.Op) api.Reply {
	var nums []int64
	switch o.Kind {
	case api.OpLoan, api.OpPlan:
		at := m.place(o.Loan)
		if at < 0 {
			return api.Reply{Err: api.ErrNoLoan}
		}
		if o.Kind == api.OpLoan {
			return api.Reply{Nums: of(loan.Look(m.p, m.s.Loans[at]))}
		}
		for _, row := range m.s.Loans[at].Plan {
			nums = append(nums, int64(row.Due), row.Interest, row.Principal, map[bool]int64{true: 1}[row.Marked])
		}
	case api.OpBooks:
		return m.books()
	case api.OpAging:
		nums = m.aging()
	case api.OpNotices:
		nums = []int64{int64(len(m.s.Notices)), 0}
		for _, n := range m.s.Notices {
			if n.Acked {
				nums[1]++
			}
		}
	case api.OpTimers:
		for _, k := range union(m.p, m.s) {
			nums = append(nums, int64(k.Day), int64(k.Loan), int64(k.Kind))
		}
	case api.OpToday:
		nums = []int64{int64(m.s.Today), int64(len(m.s.Loans))}
	default:
		return api.Reply{Err: api.ErrKind}
	}
	return api.Reply{Nums: nums}
}

// books adds the accounts up, one after the other.
func (m *model) books() api.Reply {
	var nums []int64
	for account := range 12 {
		sum := new(big.Int)
		for _, l := range m.s.Loans {
			sum.Add(sum, big.NewInt(l.Book.Net[account]))
		}
		if !sum.IsInt64() {
			return api.Reply{Err: api.ErrRange}
		}
		switch account {
		case 0, 1, 2, 3, 9, 11:
		default:
			sum.Neg(sum)
		}
		nums = append(nums, sum.Int64())
	}
	return api.Reply{Nums: nums}
}

// aging counts the loans of each class.
func (m *model) aging() []int64 {
	nums := make([]int64, 12)
	for _, l := range m.s.Loans {
		switch v := loan.Look(m.p, l); v.Status {
		case 9:
			nums[10]++
		case 8:
			nums[11]++
		default:
			nums[2*v.Bucket]++
			nums[2*v.Bucket+1] += v.Principal
		}
	}
	return nums
}

// anyPolicy is a policy whose turns come soon.
func anyPolicy(random *rand.Rand) api.Policy {
	p := example()
	p.FirstDay = among(random, first+random.Intn(60), first+random.Intn(60), api.MaxDay-200+random.Intn(150))
	p.Grace = random.Intn(6)
	p.NonAccrual = p.Grace + 1 + random.Intn(50)
	p.ChargeOff = 1 + random.Intn(90)
	p.LateRate, p.LateMin = int64(random.Intn(1000)), int64(random.Intn(500))
	p.LateMax = p.LateMin + int64(random.Intn(3000))
	p.CycleCap, p.LifeCap = int64(random.Intn(5000)), int64(random.Intn(12000))
	p.Promises, p.PromiseDays, p.Restructures = random.Intn(4), 1+random.Intn(20), random.Intn(4)
	p.Order, p.Rule = random.Intn(6), random.Intn(4)
	p.Holidays = []int{738030, 738045, 738060, 738061, 738100}
	return p
}

// among is one of some numbers.
func among[T any](random *rand.Rand, numbers ...T) T {
	return numbers[random.Intn(len(numbers))]
}

// anyOp is an operation or a query that fits the portfolio in most of its numbers.
func anyOp(random *rand.Rand, m *model) api.Op {
	if random.Intn(100) < 35 {
		return days(among(random, 1, 1, 1, 2, 3, 5, 8, 1+random.Intn(20), 1+random.Intn(60)))
	}
	o := api.Op{
		Kind: 1 + random.Intn(7), Loan: among(random, 1, 2, 5, 9, 40, 41, 7000, api.MaxLoan), Rate: among[int64](random, 0, 1, 725, 9000, 100000),
		Count: 1 + random.Intn(5), Days: 1 + random.Intn(m.p.PromiseDays), Amount: 1 + random.Int63n(20000), Text: among(random, "", "x"),
	}
	// In the beginning loans are opened; then those that there are have their turns.
	if len(m.s.Loans) < 3 && random.Intn(2) == 0 {
		o.Kind = api.OpOpen
	} else if len(m.s.Loans) > 0 && random.Intn(8) > 0 {
		o.Kind, o.Loan = 2+random.Intn(6), among(random, m.s.Loans...).ID
	}
	if at := m.place(o.Loan); at >= 0 {
		v := loan.Look(m.p, m.s.Loans[at])
		o.Amount = among(random, o.Amount, v.PastDue, v.PastDue+v.Fees, v.Fees, v.Unapplied, v.Fees+1, v.PastDue+v.Fees+1, 1+v.Unapplied/2, 1+v.Fees/2)
		if random.Intn(12) == 0 {
			o.Amount = v.Fees + v.Interest + v.Principal + among[int64](random, -1, 0, 1, 500)
		}
	}
	switch o.Kind {
	case api.OpOpen:
		o.Amount, o.Days = among[int64](random, 1, 7, 5000, 123456, 3650000), random.Intn(3)
	case api.OpPay:
		o.Count = among(random, 0, 0, 0, 1+random.Intn(30))
	}
	switch random.Intn(60) {
	case 0:
		o.Amount = among[int64](random, least, -1, 0, most, most)
	case 1:
		o.Days = among(random, least, -1, 0, 61, most)
	case 2:
		o.Count, o.Rate = among(random, least, -1, 0, 121, most), among[int64](random, least, -1, 100001, most)
	case 3:
		o.Loan = among(random, least, -1, 0, 3, api.MaxLoan+1, most)
	case 4:
		o.Kind = among(random, least, -1, 0, 9, 14, 15, 21, 22, most)
	case 5:
		o = days(among(random, least, -1, 0, 61, most))
	}
	return o
}

// queries are all kinds of them.
func queries(number int) []api.Op {
	return []api.Op{
		queryOf(api.OpLoan, number), queryOf(api.OpPlan, number), query(api.OpBooks), query(api.OpAging),
		query(api.OpNotices), query(api.OpTimers), query(api.OpToday), query(api.OpDay), query(0), query(22),
	}
}

// tally counts what a test has met.
type tally struct {
	kinds, notices map[int]int
	errors         map[api.Errno]int
}

func newTally() tally { return tally{map[int]int{}, map[int]int{}, map[api.Errno]int{}} }

// enough holds a test to having met all operations, notices and errors.
func (c tally) enough(t *testing.T) {
	t.Helper()
	for n := 1; n <= 9; n++ {
		if n <= 8 && c.kinds[n] < 50 || c.notices[n] < 50 {
			t.Errorf("operation or notice %d was seldom met: %v, %v", n, c.kinds, c.notices)
		}
	}
	for _, why := range []api.Errno{
		api.ErrArg, api.ErrRange, api.ErrAmount, api.ErrClosed, api.ErrNotOpen, api.ErrActive, api.ErrBudget,
		api.ErrTerms, api.ErrDate, api.ErrNoPay, api.ErrFunds, api.ErrNoLoan, api.ErrExists, api.ErrKind,
	} {
		if c.errors[why] < 5 {
			t.Errorf("the error %d was seldom met: %v", why, c.errors)
		}
	}
}

// holds holds one operation to the model, and all that the portfolio tells behind it.
func holds(t *testing.T, s *story, m *model, o api.Op) api.Reply {
	t.Helper()
	checked, got, want := s.e.Check(o), s.e.Apply(o), m.does(o)
	if checked != want.Err {
		t.Fatalf("15.4: under %+v Check(%+v) = %d, want %d", m.p, o, checked, want.Err)
	}
	if !sameReply(got, want) {
		t.Fatalf("15.5: under %+v Apply(%+v) = %v, want %v", m.p, o, got, want)
	}
	if state := s.e.Save(); !sameState(state, m.s) {
		t.Fatalf("15.5: under %+v the portfolio behind %+v is\n%+v, want\n%+v", m.p, o, state, m.s)
	}
	if timers := s.e.Timers(); !slices.Equal(timers, union(m.p, m.s)) {
		t.Fatalf("15.9: under %+v the timers behind %+v are %v, want %v", m.p, o, timers, union(m.p, m.s))
	}
	for _, q := range queries(o.Loan) {
		if got, want := s.e.Ask(q), m.asks(q); !sameReply(got, want) {
			t.Fatalf("15.6: under %+v Ask(%+v) = %v, want %v", m.p, q, got, want)
		}
	}
	return want
}

// 15.1 to 15.10: long lives under many policies, held against the model call by call; now and then the portfolio is laid down and taken up again.
func TestAgainstModel(t *testing.T) {
	random := rand.New(rand.NewSource(15))
	count := newTally()
	for range 500 {
		p := anyPolicy(random)
		s, m := begin(t, p), &model{p: p, s: api.State{Today: p.FirstDay}}
		for range 80 {
			o := anyOp(random, m)
			r := holds(t, s, m, o)
			count.errors[r.Err]++
			if r.Err == api.OK {
				count.kinds[o.Kind]++
			}
			for range random.Intn(3) {
				id := random.Intn(len(m.s.Notices)+2) - random.Intn(2)
				there := id >= 1 && id <= len(m.s.Notices) && !m.s.Notices[id-1].Acked
				if there {
					m.s.Notices[id-1].Acked = true
				}
				s.acknowledges(id, there)
			}
			if random.Intn(10) == 0 {
				s = loaded(t, p, s.e.Save())
			}
		}
		for _, n := range m.s.Notices {
			count.notices[n.Kind]++
		}
	}
	count.enough(t)
}

// 15.5: a portfolio that was saved under one policy, and is taken up under another, is led by that one's rolls.
func TestOtherPolicy(t *testing.T) {
	random := rand.New(rand.NewSource(152))
	for range 150 {
		p := anyPolicy(random)
		s, m := begin(t, p), &model{p: p, s: api.State{Today: p.FirstDay}}
		for range 6 {
			for range 12 {
				holds(t, s, m, anyOp(random, m))
			}
			m.p = anyPolicy(random)
			s = loaded(t, m.p, s.e.Save())
		}
	}
}
