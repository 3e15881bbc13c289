package bureau_test

import (
	"fmt"
	"maps"
	"math/big"
	"math/rand"
	"regexp"
	"slices"
	"strings"
	"testing"
	"time"

	"arrears/api"
	"arrears/bureau"
	"arrears/engine"
)

// among is one of some values.
func among[T any](random *rand.Rand, values ...T) T {
	return values[random.Intn(len(values))]
}

// begin is a new portfolio.
func begin(t *testing.T, p api.Policy) *engine.Engine {
	t.Helper()
	e, why := engine.New(p)
	if why != api.OK {
		t.Fatalf("15.1: New(%+v) = %d", p, why)
	}
	return e
}

// fileOf is the text of a file, empty where it is refused.
func fileOf(t *testing.T, p api.Policy, ops []api.Op) string {
	t.Helper()
	text, _ := bureau.File(p, ops)
	return string(text)
}

// dateOf is the date of a day.
func dateOf(day int) time.Time {
	return time.Date(1, time.January, day, 0, 0, 0, 0, time.UTC)
}

// dayOf is the number of a date's day; of dates ahead of the year 1 it is below 1.
func dayOf(d time.Time) int {
	return int((d.Unix()-dateOf(1).Unix())/86400) + 1
}

// isEnd tells whether a day is the last of a month.
func isEnd(day int) bool { return dateOf(day+1).Day() == 1 }

// model is what somebody wrote down at the ends of months who played a history day by day.
type model struct {
	policy api.Policy
	today  int
	loans  []int
	views  map[int]map[int][]int64 // by the day, and by the loan
}

// modelOf plays a history.
func modelOf(t *testing.T, p api.Policy, ops []api.Op) model {
	t.Helper()
	e := begin(t, p)
	m := model{policy: p, today: p.FirstDay, views: map[int]map[int][]int64{}}
	for _, o := range ops {
		if o.Kind != api.OpDay {
			if e.Apply(o).Err == api.OK && o.Kind == api.OpOpen {
				m.loans = append(m.loans, o.Loan)
			}
			continue
		}
		if e.Check(o) != api.OK {
			continue
		}
		for range o.Days {
			if isEnd(m.today) {
				m.views[m.today] = m.look(e)
			}
			e.Apply(days(1))
			m.today++
		}
	}
	return m
}

// look asks for all loans.
func (m model) look(e *engine.Engine) map[int][]int64 {
	views := map[int][]int64{}
	for _, number := range m.loans {
		views[number] = e.Ask(api.Op{Kind: api.OpLoan, Loan: number}).Nums
	}
	return views
}

// end is the end of the k-th last whole month.
func (m model) end(k int) int {
	d := dateOf(m.today)
	return dayOf(time.Date(d.Year(), d.Month()-time.Month(k)+1, 0, 0, 0, 0, 0, time.UTC))
}

// letter is that of a view.
func letter(view []int64) string {
	switch {
	case view == nil:
		return "-"
	case view[0] == api.Closed:
		return "C"
	case view[0] == api.ChargedOff:
		return "X"
	case view[0] == api.Promised:
		return "P"
	}
	return fmt.Sprint(view[2])
}

// profile is what Profile should answer.
func (m model) profile(id, months int) string {
	text := ""
	for k := 1; k <= months; k++ {
		text += letter(m.views[m.end(k)][id])
	}
	return text
}

// file is what File should answer.
func (m model) file() (string, api.Errno) {
	end := m.end(1)
	if end < m.policy.FirstDay {
		return "", api.ErrDate
	}
	views := m.views[end]
	text := fmt.Sprintf("BUREAU %s %d\n", dateOf(end).Format("2006-01-02"), len(views))
	var owed, pastDue int64
	for _, id := range slices.Sorted(maps.Keys(views)) {
		v := views[id]
		owes := v[4] + v[5] + v[6]
		owed, pastDue = owed+owes, pastDue+v[3]
		text += fmt.Sprintf("%d %s %s %s %s\n", id, letter(v), cents(owes), cents(v[3]), m.profile(id, 12))
	}
	return text + fmt.Sprintf("TOTAL %s %s\n", cents(owed), cents(pastDue)), api.OK
}

func cents(amount int64) string { return fmt.Sprintf("%d.%02d", amount/100, amount%100) }

// amountForm is an amount that is not below 0.
const amountForm = `((?:0|[1-9][0-9]*)\.[0-9]{2})`

var (
	lineForm = regexp.MustCompile(`^([1-9][0-9]{0,5}) ([CXP0-4]) ` + amountForm + ` ` + amountForm + ` ([CXP0-4-]{12})$`)
	headForm = regexp.MustCompile(`^BUREAU ([0-9]{4}-[0-9]{2}-[0-9]{2}) (0|[1-9][0-9]?)$`)
	footForm = regexp.MustCompile(`^TOTAL ` + amountForm + ` ` + amountForm + `$`)
)

// number is an amount's cents, without an end.
func number(amount string) *big.Int {
	n, _ := new(big.Int).SetString(strings.Replace(amount, ".", "", 1), 10)
	return n
}

// modelRead is what Read should answer.
func modelRead(text string) (int, int64, int64, bool) {
	lines := strings.Split(text, "\n")
	if len(lines) < 3 || lines[len(lines)-1] != "" {
		return 0, 0, 0, false
	}
	head, foot := headForm.FindStringSubmatch(lines[0]), footForm.FindStringSubmatch(lines[len(lines)-2])
	if head == nil || foot == nil {
		return 0, 0, 0, false
	}
	date, err := time.Parse("2006-01-02", head[1])
	if err != nil || date.Year() < 1 || date.AddDate(0, 0, 1).Day() != 1 {
		return 0, 0, 0, false
	}
	lines = lines[1 : len(lines)-2]
	if head[2] != fmt.Sprint(len(lines)) || len(lines) > 32 {
		return 0, 0, 0, false
	}
	sums, last := [2]*big.Int{new(big.Int), new(big.Int)}, big.NewInt(0)
	for _, text := range lines {
		words := lineForm.FindStringSubmatch(text)
		if words == nil || number(words[1]).Cmp(last) <= 0 || words[5][:1] != words[2] {
			return 0, 0, 0, false
		}
		last = number(words[1])
		sums[0].Add(sums[0], number(words[3]))
		sums[1].Add(sums[1], number(words[4]))
	}
	if sums[0].Cmp(number(foot[1])) != 0 || sums[1].Cmp(number(foot[2])) != 0 || !sums[0].IsInt64() || !sums[1].IsInt64() {
		return 0, 0, 0, false
	}
	return len(lines), sums[0].Int64(), sums[1].Int64(), true
}

// anyPolicy is a policy whose turns come soon.
func anyPolicy(random *rand.Rand) api.Policy {
	p := from(among(random, 1, 20, 31, 32, first, first+2, first+3, 737821, 738916, 700000+random.Intn(50000)))
	p.Grace = random.Intn(6)
	p.NonAccrual = p.Grace + 1 + random.Intn(80)
	p.ChargeOff = 1 + random.Intn(300)
	p.LateRate, p.LateMin = int64(random.Intn(1000)), int64(random.Intn(500))
	p.LateMax = p.LateMin + int64(random.Intn(3000))
	p.CycleCap, p.LifeCap = int64(random.Intn(5000)), int64(random.Intn(12000))
	p.Promises, p.PromiseDays, p.Restructures = random.Intn(4), 1+random.Intn(31), random.Intn(4)
	p.Order, p.Rule = random.Intn(6), random.Intn(4)
	p.Holidays = []int{p.FirstDay + 30, p.FirstDay + 45, p.FirstDay + 60, p.FirstDay + 61, p.FirstDay + 100}
	return p
}

// anyOp is an operation, of which the portfolio may take or refuse each.
func anyOp(random *rand.Rand, e *engine.Engine) api.Op {
	loans := e.Save().Loans
	if len(loans) < 2 || random.Intn(12) == 0 {
		return open(1+random.Intn(12), among[int64](random, 1, 7, 5000, 123456, 3650000), among[int64](random, 0, 1, 725, 9000, 100000), 1+random.Intn(20), random.Intn(3))
	}
	if random.Intn(5) < 3 {
		return api.Op{Kind: api.OpDay, Days: among(random, 0, 1, 1, 2, 5, 1+random.Intn(20), 1+random.Intn(61), 28, 29, 30, 31), Loan: random.Intn(3)}
	}
	o := api.Op{Kind: 2 + random.Intn(6), Loan: among(random, loans...).ID, Rate: among[int64](random, 0, 900, 100000), Count: 1 + random.Intn(9), Days: 1 + random.Intn(31)}
	n := e.Ask(api.Op{Kind: api.OpLoan, Loan: o.Loan}).Nums
	pastDue, fees, interest, principal, unapplied := n[3], n[4], n[5], n[6], n[7]
	o.Amount = among(random, 1, 1+random.Int63n(20000), pastDue, pastDue+fees, fees, fees+interest, unapplied, 1+unapplied/2, 1+fees/2)
	if random.Intn(12) == 0 {
		o.Amount = fees + interest + principal + among[int64](random, -1, 0, 1, 500)
	}
	if o.Kind == api.OpPay {
		o.Count = among(random, 0, 0, 0, 1+random.Intn(20))
	}
	if random.Intn(25) == 0 {
		o.Kind = among(random, 0, -1, 9, 14, 15, 21, 22, most)
	}
	return o
}

// anyHistory is a row of operations of a portfolio.
func anyHistory(t *testing.T, random *rand.Rand, p api.Policy, count int) []api.Op {
	t.Helper()
	e := begin(t, p)
	var list []api.Op
	for range count {
		o := anyOp(random, e)
		e.Apply(o)
		list = append(list, o)
	}
	return list
}

// asModel holds Profile and File to the model, and hands out the file.
func asModel(t *testing.T, m model, ops []api.Op, id, months int) string {
	t.Helper()
	text, why := bureau.File(m.policy, ops)
	if want, whyNot := m.file(); string(text) != want || why != whyNot {
		t.Errorf("24.3: File(%s) = %q, %d, want %q, %d", brief(ops), text, why, want, whyNot)
	}
	for _, number := range m.loans {
		if number == id {
			profiles(t, m.policy, ops, id, months, m.profile(id, months))
			return string(text)
		}
	}
	profilesNot(t, m.policy, ops, id, months, api.ErrNoLoan)
	return string(text)
}

// 24.2, 24.3: long lives under many policies, at the end of each of their operations, held against the model.
func TestAgainstModel(t *testing.T) {
	random := rand.New(rand.NewSource(24))
	letters, refusals := map[rune]int{}, 0
	for range 50 {
		p := anyPolicy(random)
		list := anyHistory(t, random, p, 50)
		for range 8 {
			ops := list[:random.Intn(len(list)+1)]
			text := asModel(t, modelOf(t, p, ops), ops, 1+random.Intn(12), 1+random.Intn(24))
			for _, line := range strings.Split(text, "\n") {
				if words := strings.Fields(line); len(words) == 5 {
					for _, r := range words[4] {
						letters[r]++
					}
				}
			}
			if text == "" {
				refusals++
			}
			if n, owed, pastDue, ok := bureau.Read([]byte(text)); text != "" {
				n1, owed1, pastDue1, ok1 := modelRead(text)
				if n != n1 || owed != owed1 || pastDue != pastDue1 || ok != ok1 || !ok {
					t.Errorf("24.4: Read(%q) = %d, %d, %d, %v", text, n, owed, pastDue, ok)
				}
			}
		}
	}
	for _, r := range "CXP01234-" {
		if letters[r] < 5 {
			t.Errorf("the letter %c came %d times", r, letters[r])
		}
	}
	if refusals < 20 {
		t.Errorf("%d files were refused", refusals)
	}
}
