package interest_test

import (
	"math"
	"math/rand"
	"slices"
	"testing"
	"time"

	"arrears/api"
	"arrears/interest"
)

// dayOf is the number of a date, by the library's clock.
func dayOf(year, month, day int) int {
	first := time.Date(1, 1, 1, 0, 0, 0, 0, time.UTC).Unix()
	return int((time.Date(year, time.Month(month), day, 0, 0, 0, 0, time.UTC).Unix()-first)/86400) + 1
}

func clock(day int) time.Time {
	return time.Date(1, 1, 1, 0, 0, 0, 0, time.UTC).AddDate(0, 0, day-1)
}

func isOpen(day int, holidays []int) bool {
	weekday := clock(day).Weekday()
	return day >= 1 && day <= api.MaxDay && weekday != time.Saturday && weekday != time.Sunday && !slices.Contains(holidays, day)
}

// step goes from a day to the next open one, at most MaxAdjust days on (1) or back (-1).
func step(day, by int, holidays []int) (int, bool) {
	for range api.MaxAdjust {
		if isOpen(day, holidays) {
			break
		}
		day += by
	}
	return day, isOpen(day, holidays)
}

// dueOf is the due day of a month, on paper: the month's last day, or the start's day of the month if that is ahead of it, moved by the rule.
func dueOf(x api.Terms, month int, holidays []int) (int, bool) {
	start := clock(x.Start)
	first := time.Date(start.Year(), start.Month()+time.Month(month), 1, 0, 0, 0, 0, time.UTC)
	if first.Year() > 9999 {
		return 0, false
	}
	last := first.AddDate(0, 1, -1)
	day := dayOf(first.Year(), int(first.Month()), min(start.Day(), last.Day()))
	switch x.Rule {
	case api.RuleFollowing:
		return step(day, 1, holidays)
	case api.RulePreceding:
		return step(day, -1, holidays)
	case api.RuleModified:
		if next, ok := step(day, 1, holidays); ok && clock(next).Month() == clock(day).Month() {
			return next, true
		}
		return step(day, -1, holidays)
	}
	return day, true
}

// planOf makes a plan of valid terms on paper: all months with their parts, first; then those that stand, with their days.
func planOf(x api.Terms, holidays []int) ([]api.Instalment, bool) {
	parts := make([]int64, x.Count)
	switch x.Kind {
	case api.PlanEqual:
		for cent := int64(0); cent < x.Principal%int64(x.Count); cent++ {
			parts[cent]++
		}
		for i := range parts {
			parts[i] += x.Principal / int64(x.Count)
		}
	case api.PlanBalloon:
		parts[x.Count-1] = x.Principal
	}
	payment, _ := interest.Level(x.Principal, x.Rate, x.Count)
	var plan []api.Instalment
	balance := x.Principal
	for i, part := range parts {
		earned := monthly(balance, x.Rate)
		if x.Kind == api.PlanLevel {
			part = min(payment-earned, balance)
		}
		if balance == 0 || earned+part == 0 {
			continue
		}
		due, ok := dueOf(x, i+1, holidays)
		if !ok {
			return nil, false
		}
		plan = append(plan, api.Instalment{Due: due, Interest: earned, Principal: part})
		balance -= part
	}
	return plan, true
}

func checkPlan(t *testing.T, x api.Terms, holidays []int) []api.Instalment {
	t.Helper()
	want, wantOK := planOf(x, holidays)
	plan, ok := interest.Plan(x, holidays)
	if !slices.Equal(plan, want) || ok != wantOK {
		t.Fatalf("3.5: Plan(%+v, %v) = %v, %v, want %v, %v", x, holidays, plan, ok, want, wantOK)
	}
	return plan
}

func checkRefused(t *testing.T, x api.Terms, holidays []int) {
	t.Helper()
	if plan, ok := interest.Plan(x, holidays); len(plan) != 0 || ok {
		t.Errorf("3.5: Plan(%+v, %v) = %v, %v", x, holidays, plan, ok)
	}
}

// checkFollows asks for what 3.6 says of a plan.
func checkFollows(t *testing.T, x api.Terms, plan []api.Instalment) {
	t.Helper()
	payment, _ := interest.Level(x.Principal, x.Rate, x.Count)
	sum := int64(0)
	for i, row := range plan {
		sum += row.Principal
		whole := row.Interest + row.Principal
		if x.Kind == api.PlanLevel && (whole > payment || whole < payment && i < len(plan)-1) {
			t.Fatalf("3.6: Plan(%+v), row %d: %+v, payment %d", x, i, row, payment)
		}
		if x.Kind != api.PlanBalloon && row.Principal < 1 {
			t.Fatalf("3.6: Plan(%+v), row %d: %+v", x, i, row)
		}
		if row.Due <= x.Start || i > 0 && row.Due <= plan[i-1].Due {
			t.Fatalf("3.5: Plan(%+v), row %d: %+v is not due behind the one ahead", x, i, row)
		}
	}
	if sum != x.Principal || len(plan) == 0 || len(plan) > x.Count {
		t.Fatalf("3.6: Plan(%+v): %d in %d rows", x, sum, len(plan))
	}
}

// 3.5: the document's own examples.
func TestPlanExamples(t *testing.T) {
	for _, c := range []struct {
		terms    api.Terms
		holidays []int
		plan     []api.Instalment
	}{
		{api.Terms{Kind: api.PlanEqual, Principal: 100, Count: 3, Start: 30}, nil, []api.Instalment{{Due: 59, Principal: 34}, {Due: 89, Principal: 33}, {Due: 120, Principal: 33}}},
		{api.Terms{Kind: api.PlanBalloon, Principal: 100000, Rate: 1200, Count: 2, Start: 1}, nil, []api.Instalment{{Due: 32, Interest: 1000}, {Due: 60, Interest: 1000, Principal: 100000}}},
		{api.Terms{Kind: api.PlanLevel, Principal: 5, Count: 120, Start: 1}, nil, []api.Instalment{{Due: 32, Principal: 1}, {Due: 60, Principal: 1}, {Due: 91, Principal: 1}, {Due: 121, Principal: 1}, {Due: 152, Principal: 1}}},
		{api.Terms{Kind: api.PlanBalloon, Principal: 50, Rate: 1200, Count: 3, Start: 1}, nil, []api.Instalment{{Due: 91, Principal: 50}}},
		{api.Terms{Kind: api.PlanEqual, Principal: 100, Count: 1, Start: 6, Rule: api.RuleFollowing}, []int{37}, []api.Instalment{{Due: 38, Principal: 100}}},
	} {
		if plan, ok := interest.Plan(c.terms, c.holidays); !slices.Equal(plan, c.plan) || !ok {
			t.Errorf("3.5: Plan(%+v, %v) = %v, %v, want %v", c.terms, c.holidays, plan, ok, c.plan)
		}
	}
	plan, ok := interest.Plan(api.Terms{Kind: api.PlanLevel, Principal: 100000, Rate: 1200, Count: 12, Start: 1}, nil)
	if !ok || len(plan) != 12 {
		t.Fatalf("3.5: a level plan of twelve months: %v, %v", plan, ok)
	}
	for place, parts := range map[int][2]int64{0: {1000, 7885}, 1: {921, 7964}, 11: {88, 8796}} {
		if plan[place].Interest != parts[0] || plan[place].Principal != parts[1] {
			t.Errorf("3.5: a level plan of twelve months, row %d: %+v, want %v", place, plan[place], parts)
		}
	}
}

// 3.5, 3.6: drawn terms of every kind and rule, held against the plan on paper.
func TestPlanOnPaper(t *testing.T) {
	r := rand.New(rand.NewSource(35))
	for range 4000 {
		x := api.Terms{Kind: r.Intn(3), Principal: 1 + r.Int63n(api.MaxPrincipal)>>r.Intn(44), Rate: r.Int63n(api.MaxRate+1) >> r.Intn(18), Count: 1 + r.Intn(api.MaxTerm), Start: 1 + r.Intn(api.MaxDay-4000), Rule: r.Intn(4)}
		var holidays []int
		for range r.Intn(api.MaxHolidays + 1) {
			holidays = append(holidays, x.Start+r.Intn(400))
		}
		if plan := checkPlan(t, x, holidays); len(plan) > 0 {
			checkFollows(t, x, plan)
		}
	}
}

// 3.5, 3.6: principals, rates and counts at both ends, for each kind.
func TestPlanAtTheEdges(t *testing.T) {
	for kind := range 3 {
		for _, principal := range []int64{1, 2, 119, 120, 121, 100000, api.MaxPrincipal - 1, api.MaxPrincipal} {
			for _, rate := range rates {
				for _, count := range []int{1, 2, 12, api.MaxTerm - 1, api.MaxTerm} {
					x := api.Terms{Kind: kind, Principal: principal, Rate: rate, Count: count, Start: dayOf(2023, 8, 31), Rule: api.RuleModified}
					checkFollows(t, x, checkPlan(t, x, nil))
				}
			}
		}
	}
}

// 3.5: a plan that starts on the 31st falls back to a short month's last day, and comes back to the 31st.
func TestPlanFromTheThirtyFirst(t *testing.T) {
	x := api.Terms{Kind: api.PlanEqual, Principal: 500, Count: 5, Start: dayOf(2023, 10, 31)}
	plan := checkPlan(t, x, nil)
	for i, due := range []int{dayOf(2023, 11, 30), dayOf(2023, 12, 31), dayOf(2024, 1, 31), dayOf(2024, 2, 29), dayOf(2024, 3, 31)} {
		if plan[i].Due != due {
			t.Errorf("3.5: row %d is due on %d, want %d", i, plan[i].Due, due)
		}
	}
	// The rule moves a due day alone, not those behind it: December's 31st of 2023 is a Sunday.
	x.Rule = api.RuleModified
	plan = checkPlan(t, x, nil)
	for i, due := range []int{dayOf(2023, 11, 30), dayOf(2023, 12, 29), dayOf(2024, 1, 31), dayOf(2024, 2, 29), dayOf(2024, 3, 29)} {
		if plan[i].Due != due {
			t.Errorf("3.5: row %d is due on %d, want %d", i, plan[i].Due, due)
		}
	}
	for start := dayOf(2023, 1, 1); start <= dayOf(2024, 12, 31); start++ {
		for rule := range 4 {
			x := api.Terms{Kind: api.PlanEqual, Principal: 2600, Count: 26, Start: start, Rule: rule}
			checkFollows(t, x, checkPlan(t, x, nil))
		}
	}
}

// 3.5: equal parts, the first ones a cent more; a cent a month where there are fewer cents than months.
func TestPlanEqualParts(t *testing.T) {
	x := api.Terms{Kind: api.PlanEqual, Principal: 107, Count: 10, Start: 700000}
	for i, row := range checkPlan(t, x, nil) {
		want := int64(11)
		if i >= 7 {
			want = 10
		}
		if row.Principal != want {
			t.Errorf("3.5: row %d: %+v, want %d", i, row, want)
		}
	}
	for cents := range 12 {
		x.Principal, x.Count = int64(cents)+1, 12
		plan := checkPlan(t, x, nil)
		if len(plan) != cents+1 {
			t.Errorf("3.5: %d cents over 12 months: %v", cents+1, plan)
		}
	}
}

// 3.5: a level plan of a small principal ends ahead of its last month.
func TestPlanEndsAhead(t *testing.T) {
	for _, c := range []struct {
		principal, rate int64
		count, rows     int
	}{{5, 0, 120, 5}, {61, 0, 120, 61}, {121, 0, 120, 61}, {1, 100000, 120, 1}, {100, 1200, 40, 30}, {100, 0, 12, 12}} {
		x := api.Terms{Kind: api.PlanLevel, Principal: c.principal, Rate: c.rate, Count: c.count, Start: 700000}
		plan := checkPlan(t, x, nil)
		checkFollows(t, x, plan)
		if len(plan) != c.rows {
			t.Errorf("3.5: Plan(%+v): %d rows, want %d", x, len(plan), c.rows)
		}
	}
}

// shut is a run of holidays that begins on a day, longer than a due day moves.
func shut(day int) []int {
	var days []int
	for i := range api.MaxAdjust + 1 {
		days = append(days, day+i)
	}
	return days
}

// 3.5: a month without interest and principal part has no instalment, and no day is asked for it.
func TestPlanMonthsWithoutInstalment(t *testing.T) {
	start := dayOf(2024, 1, 15)
	x := api.Terms{Kind: api.PlanBalloon, Principal: 50, Rate: 1200, Count: 3, Start: start, Rule: api.RuleFollowing}
	for _, month := range []int{2, 3} {
		plan, ok := interest.Plan(x, shut(dayOf(2024, month, 15)))
		if want := []api.Instalment{{Due: dayOf(2024, 4, 15), Principal: 50}}; !slices.Equal(plan, want) || !ok {
			t.Errorf("3.5: a shut month without an instalment: %v, %v", plan, ok)
		}
	}
	checkRefused(t, x, shut(dayOf(2024, 4, 15)))
	x.Principal = 51
	if plan := checkPlan(t, x, nil); len(plan) != 3 || plan[0] != (api.Instalment{Due: dayOf(2024, 2, 15), Interest: 1}) {
		t.Errorf("3.5: months of half a cent and more: %v", plan)
	}
	for month := range 3 {
		checkRefused(t, x, shut(dayOf(2024, month+2, 15)))
	}
	x.Principal, x.Rate, x.Count = api.MaxPrincipal, 0, api.MaxTerm
	if plan := checkPlan(t, x, nil); len(plan) != 1 || plan[0].Due != dayOf(2034, 1, 16) {
		t.Errorf("3.5: a balloon without a rate: %v", plan)
	}
}

// 3.5: plans that end close to the calendar's last day, a Friday, and those that would go beyond it.
func TestPlanAtTheCalendarsEnd(t *testing.T) {
	x := api.Terms{Kind: api.PlanEqual, Principal: 100, Count: 1, Start: dayOf(9999, 11, 30)}
	for rule := range 4 {
		x.Rule, x.Start = rule, dayOf(9999, 11, 30)
		checkPlan(t, x, nil)
		x.Start = dayOf(9999, 10, 31)
		x.Count = 2
		plan := checkPlan(t, x, nil)
		if len(plan) != 2 || plan[1].Due != api.MaxDay {
			t.Errorf("3.5: due on the last day of all: %v", plan)
		}
		x.Count = 3
		checkRefused(t, x, nil)
		x.Count = 1
		for _, start := range []int{dayOf(9999, 12, 1), api.MaxDay - 1, api.MaxDay} {
			x.Start = start
			checkRefused(t, x, nil)
		}
	}
	x.Start, x.Count = dayOf(9999, 10, 31), 2
	for rule, due := range []int{api.MaxDay, 0, api.MaxDay - 1, api.MaxDay - 1} {
		x.Rule = rule
		plan := checkPlan(t, x, []int{api.MaxDay})
		if due == 0 && len(plan) != 0 || due != 0 && (len(plan) != 2 || plan[1].Due != due) {
			t.Errorf("3.5: rule %d, the last day of all a holiday: %v", rule, plan)
		}
	}
	// Of a plan that ends ahead of its last month, no day beyond is asked.
	x = api.Terms{Kind: api.PlanEqual, Principal: 2, Count: api.MaxTerm, Start: dayOf(9999, 10, 31)}
	if plan := checkPlan(t, x, nil); len(plan) != 2 {
		t.Errorf("3.5: two cents at the calendar's end: %v", plan)
	}
	x.Kind = api.PlanLevel
	if plan := checkPlan(t, x, nil); len(plan) != 2 {
		t.Errorf("3.5: two cents at the calendar's end: %v", plan)
	}
	x.Principal = 3
	checkRefused(t, x, nil)
	x.Kind = api.PlanBalloon
	checkRefused(t, x, nil)
	x.Kind, x.Start = api.PlanEqual, 1
	checkFollows(t, x, checkPlan(t, x, nil))
}

// 3.5: as many holidays as there may be, and one more; whatever numbers they are.
func TestPlanHolidays(t *testing.T) {
	x := api.Terms{Kind: api.PlanEqual, Principal: 100, Count: 1, Start: dayOf(2024, 1, 15), Rule: api.RuleFollowing}
	due := dayOf(2024, 2, 15)
	full := make([]int, api.MaxHolidays)
	full[api.MaxHolidays-1] = due
	if plan, ok := interest.Plan(x, full); len(plan) != 1 || plan[0].Due != due+1 || !ok {
		t.Errorf("3.5: the last of %d holidays: %v, %v", len(full), plan, ok)
	}
	checkRefused(t, x, append(full, 0))
	checkRefused(t, x, make([]int, 10*api.MaxHolidays))
	for rule := range 4 {
		x.Rule = rule
		for _, holidays := range [][]int{nil, {}, {math.MinInt, math.MaxInt, -1, 0, api.MaxDay + 1}, {due, due, due}, shut(due), shut(due)[:api.MaxAdjust], shut(due - api.MaxAdjust), shut(due - api.MaxAdjust)[1:], append(shut(due), shut(due-api.MaxAdjust)...)} {
			checkPlan(t, x, holidays)
		}
		checkRefused(t, x, make([]int, api.MaxHolidays+1))
	}
}

// 3.5: terms that are not valid are refused, each field by itself.
func TestPlanRefused(t *testing.T) {
	good := api.Terms{Kind: api.PlanLevel, Principal: 100000, Rate: 1200, Count: 12, Start: 700000, Rule: api.RuleModified}
	checkFollows(t, good, checkPlan(t, good, nil))
	for kind := range 3 {
		good.Kind = kind
		for _, principal := range append([]int64{0, api.MaxPrincipal + 1, most}, noPrincipals...) {
			x := good
			x.Principal = principal
			checkRefused(t, x, nil)
		}
		for _, rate := range noRates {
			x := good
			x.Rate = rate
			checkRefused(t, x, nil)
		}
		for _, count := range []int{0, -1, api.MaxTerm + 1, math.MaxInt, math.MinInt} {
			x := good
			x.Count = count
			checkRefused(t, x, nil)
		}
		for _, start := range []int{0, -1, api.MaxDay, api.MaxDay + 1, math.MaxInt, math.MinInt} {
			x := good
			x.Start = start
			checkRefused(t, x, nil)
		}
		for _, wrong := range []int{-1, 4, math.MaxInt, math.MinInt} {
			x := good
			x.Rule = wrong
			checkRefused(t, x, nil)
		}
	}
	for _, wrong := range []int{-1, 3, math.MaxInt, math.MinInt} {
		x := good
		x.Kind = wrong
		checkRefused(t, x, nil)
	}
	checkRefused(t, api.Terms{}, nil)
}

// 3.7: an answer shares no memory with another, in its spare room neither, and the holidays stay as they were.
func TestPlanIsNewMemory(t *testing.T) {
	room := []int{700031, 5, 700061, 1, 2, 3}
	holidays := room[:4]
	for kind := range 3 {
		x := api.Terms{Kind: kind, Principal: 100000, Rate: 1200, Count: 11, Start: 700000, Rule: api.RuleFollowing}
		first, _ := interest.Plan(x, holidays)
		kept := slices.Clone(first)
		second, _ := interest.Plan(x, holidays)
		for i := range second[:cap(second)] {
			second[:cap(second)][i] = api.Instalment{Due: -1, Interest: -1, Principal: -1, Marked: true}
		}
		third, _ := interest.Plan(x, holidays)
		if !slices.Equal(first, kept) || !slices.Equal(third, kept) {
			t.Errorf("3.7: writing into one answer changed another: %v, %v, want %v", first, third, kept)
		}
		if !slices.Equal(room, []int{700031, 5, 700061, 1, 2, 3}) {
			t.Errorf("3.7: the holidays were changed: %v", room)
		}
	}
}
