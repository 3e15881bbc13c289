package bureau_test

import (
	"fmt"
	"math"
	"strings"
	"testing"

	"arrears/api"
	"arrears/bureau"
)

const most, least = math.MaxInt64, math.MinInt64

// first is the day on which the tests' portfolios begin: 2021-07-29, a Thursday.
const first = 738000

// example is the policy of the chapter's examples.
func example() api.Policy {
	return api.Policy{
		FirstDay: first, Grace: 10, NonAccrual: 90, ChargeOff: 120,
		LateRate: 500, LateMin: 1500, LateMax: 10000, CycleCap: 20000, LifeCap: 50000,
		Promises: 3, PromiseDays: 14, Restructures: 2,
		Order: 0, Rule: 0, RetryBase: 2, RetryCap: 16, SnapEvery: 100,
	}
}

// with is the policy of the examples with a change.
func with(change func(p *api.Policy)) api.Policy {
	p := example()
	change(&p)
	return p
}

// from is the policy of the examples with another first day.
func from(day int) api.Policy {
	return with(func(p *api.Policy) { p.FirstDay = day })
}

// refused are policies that may not be, by many of their fields.
func refused() []api.Policy {
	return []api.Policy{
		{},
		from(0),
		from(api.MaxDay + 1),
		with(func(p *api.Policy) { p.Grace = 31 }),
		with(func(p *api.Policy) { p.NonAccrual = p.Grace }),
		with(func(p *api.Policy) { p.ChargeOff = 0 }),
		with(func(p *api.Policy) { p.LateMax = p.LateMin - 1 }),
		with(func(p *api.Policy) { p.Promises = 9 }),
		with(func(p *api.Policy) { p.Order = 6 }),
		with(func(p *api.Policy) { p.Rule = -1 }),
		with(func(p *api.Policy) { p.RetryCap = 65 }),
		with(func(p *api.Policy) { p.SnapEvery = 1001 }),
		with(func(p *api.Policy) { p.Holidays = []int{5, 5} }),
		with(func(p *api.Policy) { p.Holidays = make([]int, api.MaxHolidays+1) }),
	}
}

// The operations, by what they use of an api.Op.
func open(number int, amount, rate int64, count, kind int) api.Op {
	return api.Op{Kind: api.OpOpen, Loan: number, Amount: amount, Rate: rate, Count: count, Days: kind}
}
func pay(number int, amount int64) api.Op {
	return api.Op{Kind: api.OpPay, Loan: number, Amount: amount}
}
func takeBack(number int) api.Op { return api.Op{Kind: api.OpReturn, Loan: number} }
func refund(number int, amount int64) api.Op {
	return api.Op{Kind: api.OpRefund, Loan: number, Amount: amount}
}
func waive(number int, amount int64) api.Op {
	return api.Op{Kind: api.OpWaive, Loan: number, Amount: amount}
}
func promise(number int, amount int64, days int) api.Op {
	return api.Op{Kind: api.OpPromise, Loan: number, Amount: amount, Days: days}
}
func restructure(number, count int, rate int64) api.Op {
	return api.Op{Kind: api.OpRestructure, Loan: number, Count: count, Rate: rate}
}
func days(n int) api.Op { return api.Op{Kind: api.OpDay, Days: n} }

// passing are day operations of so many days together.
func passing(n int) []api.Op {
	var list []api.Op
	for n > api.MaxSpan {
		list, n = append(list, days(api.MaxSpan)), n-api.MaxSpan
	}
	return append(list, days(n))
}

// opened is the loan of the chapter's examples: twelve rows of 100.00, the first due on 738031.
func opened() api.Op { return open(7, 120000, 0, 12, api.PlanLevel) }

// history is the chapter's H.
func history() []api.Op { return []api.Op{opened(), days(42), days(60)} }

// brief tells operations, but not too many of them.
func brief(ops []api.Op) string {
	if len(ops) > 20 {
		return fmt.Sprintf("%+v and %d more", ops[:20], len(ops)-20)
	}
	return fmt.Sprintf("%+v", ops)
}

// file is a file of these lines.
func file(lines ...string) string { return strings.Join(lines, "\n") + "\n" }

// hOf is the chapter's file of H.
func hOf() string {
	return file("BUREAU 2021-10-31 1", "7 3 1230.00 300.00 3210--------", "TOTAL 1230.00 300.00")
}

// profiles holds Profile to its letters.
func profiles(t *testing.T, p api.Policy, ops []api.Op, id, months int, want string) {
	t.Helper()
	if got, why := bureau.Profile(p, ops, id, months); got != want || why != api.OK {
		t.Errorf("24.2: Profile(%s, %d, %d) = %q, %d, want %q, OK", brief(ops), id, months, got, why, want)
	}
}

// profilesNot holds Profile to an error, and to nothing beside it.
func profilesNot(t *testing.T, p api.Policy, ops []api.Op, id, months int, want api.Errno) {
	t.Helper()
	if got, why := bureau.Profile(p, ops, id, months); got != "" || why != want {
		t.Errorf("24.2: Profile(%s, %d, %d) = %q, %d, want none, %d", brief(ops), id, months, got, why, want)
	}
}

// files holds File to its text, and Read to reading that.
func files(t *testing.T, p api.Policy, ops []api.Op, want string) {
	t.Helper()
	got, why := bureau.File(p, ops)
	if string(got) != want || why != api.OK {
		t.Errorf("24.3: File(%s) = %q, %d, want %q, OK", brief(ops), got, why, want)
	}
	if n, _, _, ok := bureau.Read(got); n != strings.Count(want, "\n")-2 || !ok {
		t.Errorf("24.4: Read(%q) = %d, %v", got, n, ok)
	}
}

// filesNot holds File to an error, and to nothing beside it.
func filesNot(t *testing.T, p api.Policy, ops []api.Op, want api.Errno) {
	t.Helper()
	if got, why := bureau.File(p, ops); len(got) != 0 || why != want {
		t.Errorf("24.3: File(%s) = %q, %d, want none, %d", brief(ops), got, why, want)
	}
}

// reads holds Read to its numbers.
func reads(t *testing.T, text string, count int, owed, pastDue int64) {
	t.Helper()
	if n, o, late, ok := bureau.Read([]byte(text)); n != count || o != owed || late != pastDue || !ok {
		t.Errorf("24.4: Read(%q) = %d, %d, %d, %v, want %d, %d, %d, true", text, n, o, late, ok, count, owed, pastDue)
	}
}

// readsNot holds Read to its refusal.
func readsNot(t *testing.T, text string) {
	t.Helper()
	if n, owed, pastDue, ok := bureau.Read([]byte(text)); n != 0 || owed != 0 || pastDue != 0 || ok {
		t.Errorf("24.4: Read(%q) = %d, %d, %d, %v, want a refusal", text, n, owed, pastDue, ok)
	}
}

// The chapter's examples, row by row.
func TestExamples(t *testing.T) {
	p, h := example(), history()
	profiles(t, p, h, 7, 4, "3210")
	profiles(t, p, h, 7, 6, "3210--")
	profilesNot(t, p, h, 8, 4, api.ErrNoLoan)
	profilesNot(t, p, h, 7, 0, api.ErrArg)
	profilesNot(t, p, h, 7, 25, api.ErrArg)
	files(t, p, h, hOf())
	reads(t, hOf(), 1, 123000, 30000)
	readsNot(t, strings.Replace(hOf(), "TOTAL 1230.00", "TOTAL 1230.01", 1))
	readsNot(t, hOf()[:len(hOf())-1])
	readsNot(t, "")
	reads(t, "BUREAU 2021-10-31 0\nTOTAL 0.00 0.00\n", 0, 0, 0)
	readsNot(t, "BUREAU 2021-10-30 0\nTOTAL 0.00 0.00\n")
	filesNot(t, p, []api.Op{opened()}, api.ErrDate)
}
