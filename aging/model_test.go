package aging_test

import (
	"math/big"
	"math/rand"
	"testing"

	"arrears/aging"
	"arrears/api"
)

// through is what the rows up to this one come to, in numbers without an end.
func through(plan []api.Instalment, number int) *big.Int {
	sum := new(big.Int)
	for _, r := range plan[:number+1] {
		sum.Add(sum, big.NewInt(r.Interest))
		sum.Add(sum, big.NewInt(r.Principal))
	}
	return sum
}

// modelPlan is the plan where chapter 10 calls it sound, else no rows.
func modelPlan(plan []api.Instalment) []api.Instalment {
	for i, r := range plan {
		for _, ahead := range plan[:i] {
			if ahead.Due >= r.Due {
				return nil
			}
		}
		if r.Due < 1 || r.Due > 3652059 || r.Interest < 0 || r.Principal < 0 || !through(plan, i).IsInt64() {
			return nil
		}
	}
	return plan
}

// modelOpen tells of each row whether it is not satisfied.
func modelOpen(plan []api.Instalment, pos api.Position) []bool {
	open := make([]bool, len(plan))
	for i := range plan {
		paid := through(plan, i).Cmp(big.NewInt(max(pos.Applied, 0))) <= 0
		open[i] = pos.Rest > 0 && (i == len(plan)-1 || !paid)
	}
	return open
}

// modelLate is today less the due day, in numbers without an end, but not below 0.
func modelLate(r api.Instalment, today int) *big.Int {
	late := new(big.Int).Sub(big.NewInt(int64(today)), big.NewInt(int64(r.Due)))
	if late.Sign() < 0 {
		return new(big.Int)
	}
	return late
}

// modelPastDue is the chapter's rule for PastDue, sentence by sentence.
func modelPastDue(plan []api.Instalment, pos api.Position, today int) int64 {
	if pos.Rest <= 0 || len(plan) == 0 {
		return 0
	}
	if plan[len(plan)-1].Due < today {
		return pos.Rest
	}
	due := new(big.Int)
	for i, r := range plan {
		if r.Due < today {
			due = through(plan, i)
		}
	}
	due.Sub(due, big.NewInt(max(pos.Applied, 0)))
	if due.Sign() < 0 {
		return 0
	}
	if due.Cmp(big.NewInt(pos.Rest)) > 0 {
		return pos.Rest
	}
	return due.Int64()
}

// anyCents is mostly small, now and then an edge or below 0.
func anyCents(random *rand.Rand) int64 {
	switch random.Intn(40) {
	case 0:
		return most - random.Int63n(3)
	case 1:
		return -1 - random.Int63n(3)
	case 2:
		return 1<<62 + random.Int63n(5) - 2
	case 3:
		return least
	case 4, 5, 6, 7:
		return 0
	}
	return random.Int63n(30)
}

// anyPlan is a plan of up to six rows, mostly sound.
func anyPlan(random *rand.Rand) []api.Instalment {
	var plan []api.Instalment
	due := 0
	for range random.Intn(7) {
		due += 1 + random.Intn(12)
		if random.Intn(40) == 0 {
			due = []int{0, -1, least, api.MaxDay - 1, api.MaxDay, api.MaxDay + 1, due - 1, due - 12}[random.Intn(8)]
		}
		r := row(due, anyCents(random), anyCents(random))
		r.Marked = random.Intn(4) == 0
		plan = append(plan, r)
	}
	return plan
}

// anyToday is mostly around the plan's days.
func anyToday(random *rand.Rand) int {
	switch random.Intn(16) {
	case 0:
		return []int{least, least + 1, most, most - 1, -1}[random.Intn(5)]
	case 1:
		return api.MaxDay + random.Intn(5) - 2
	}
	return random.Intn(60)
}

// 10.2 to 10.5, 10.7: held against the model, plans that are not sound and ints that are no days among the rest.
func TestAsTheModel(t *testing.T) {
	random := rand.New(rand.NewSource(102))
	seen := map[string]int{}
	for range 100000 {
		plan, pos, today := anyPlan(random), at(anyCents(random), anyCents(random)), anyToday(random)
		grace := []int{least, -1, 0, 0, 1, 5, 20, most}[random.Intn(8)]
		heard := modelPlan(plan)
		if len(heard) < len(plan) {
			seen["not sound"]++
		}
		first, found, days := 0, false, 0
		var missed []int
		for i, open := range modelOpen(heard, pos) {
			if open && !found {
				first, found, days = i, true, int(modelLate(heard[i], today).Int64())
			}
			if open && !heard[i].Marked && modelLate(heard[i], today).Cmp(big.NewInt(int64(max(grace, 0)))) > 0 {
				missed = append(missed, i)
			}
		}
		satisfied := len(heard)
		if found {
			satisfied = first
			seen["owed"]++
		}
		if got := aging.Satisfied(plan, pos); got != satisfied {
			t.Fatalf("10.2: Satisfied(%v, %v) = %d, want %d", plan, pos, got, satisfied)
		}
		oldest(t, plan, pos, first, found)
		isLate(t, plan, pos, today, days)
		isDue(t, plan, pos, today, modelPastDue(heard, pos, today))
		misses(t, plan, pos, today, grace, missed...)
		if len(missed) > 1 {
			seen["missed"]++
		}
		if t.Failed() {
			return
		}
	}
	if min(seen["not sound"], seen["owed"], seen["missed"]) < 10000 {
		t.Errorf("too few of a kind: %v", seen)
	}
}

// 10.9: held against a search day by day.
func TestReachAsTheModel(t *testing.T) {
	random := rand.New(rand.NewSource(109))
	found := 0
	for range 20000 {
		plan, pos, today, days := anyPlan(random), at(anyCents(random), anyCents(random)), random.Intn(100)-2, random.Intn(100)-2
		heard := modelPlan(plan)
		first := -1
		for i, open := range modelOpen(heard, pos) {
			if open && first < 0 {
				first = i
			}
		}
		if first < 0 || today < 0 || days < 1 {
			reaches(t, plan, pos, today, days, 0, false)
			continue
		}
		if heard[first].Due > 1000 {
			continue
		}
		day := today + 1
		for modelLate(heard[first], day).Int64() < int64(days) {
			day++
		}
		reaches(t, plan, pos, today, days, day, true)
		found++
	}
	if found < 5000 {
		t.Errorf("only %d were found", found)
	}
}
