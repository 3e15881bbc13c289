package aging_test

import (
	"math/rand"
	"testing"

	"arrears/aging"
	"arrears/api"
)

// soundPlans hands out sound plans, some with rows of nothing and some without rows.
func soundPlans(seed int64, count int, use func(random *rand.Rand, plan []api.Instalment)) {
	random := rand.New(rand.NewSource(seed))
	for range count {
		if plan := anyPlan(random); len(modelPlan(plan)) == len(plan) {
			use(random, plan)
		}
	}
}

// 10.10: an amount is past due just where days are, if Rest is above 0 or a row is not satisfied.
func TestPastDueWhereDays(t *testing.T) {
	both := [2]int{}
	soundPlans(1010, 20000, func(random *rand.Rand, plan []api.Instalment) {
		pos := at(anyCents(random), anyCents(random))
		if _, open := aging.Oldest(plan, pos); pos.Rest <= 0 && !open {
			return
		}
		for _, today := range []int{anyToday(random), random.Intn(60), random.Intn(60)} {
			days, due := aging.Days(plan, pos, today), aging.PastDue(plan, pos, today)
			if (days > 0) != (due > 0) || days < 0 || due < 0 {
				t.Fatalf("10.10: of %v at %v on %d: %d days, %d past due", plan, pos, today, days, due)
			}
			both[min(days, 1)]++
		}
	})
	if min(both[0], both[1]) < 5000 {
		t.Errorf("too few of a kind: %v", both)
	}
}

// 10.10: while nothing is paid, the days rise by one each day from the day behind the oldest due day on, and what is past due never falls.
func TestDaysRise(t *testing.T) {
	soundPlans(1011, 3000, func(random *rand.Rand, plan []api.Instalment) {
		pos := at(anyCents(random), 1+random.Int63n(50))
		first, open := aging.Oldest(plan, pos)
		for today := -1; today < 90; today++ {
			step := aging.Days(plan, pos, today+1) - aging.Days(plan, pos, today)
			want := 0
			if open && today >= plan[first].Due {
				want = 1
			}
			if step != want {
				t.Fatalf("10.10: of %v at %v the days rise by %d behind %d, want %d", plan, pos, step, today, want)
			}
			if aging.PastDue(plan, pos, today+1) < aging.PastDue(plan, pos, today) {
				t.Fatalf("10.10: of %v at %v less is past due behind %d", plan, pos, today)
			}
		}
	})
}

// 10.10: whoever pays more is never more days late, and has never more past due.
func TestPayingMoreHelps(t *testing.T) {
	helped := 0
	soundPlans(1012, 30000, func(random *rand.Rand, plan []api.Instalment) {
		pos := at(random.Int63n(100)-5, random.Int63n(200)-5)
		more := at(pos.Applied+1+random.Int63n(60), pos.Rest-random.Int63n(60))
		today := anyToday(random)
		days, due := aging.Days(plan, pos, today), aging.PastDue(plan, pos, today)
		then, left := aging.Days(plan, more, today), aging.PastDue(plan, more, today)
		if then > days || left > due || aging.Satisfied(plan, more) < aging.Satisfied(plan, pos) {
			t.Fatalf("10.10: of %v on %d: %d days, %d past due at %v, but %d, %d at %v", plan, today, days, due, pos, then, left, more)
		}
		if then < days && left < due {
			helped++
		}
	})
	if helped < 1000 {
		t.Errorf("only %d were helped", helped)
	}
}

// 10.10: ahead of the day that Reach tells the days stay below, on it they do not.
func TestReachIsTheFirst(t *testing.T) {
	reached := 0
	soundPlans(1013, 5000, func(random *rand.Rand, plan []api.Instalment) {
		pos, today, days := at(anyCents(random), anyCents(random)), random.Intn(60), 1+random.Intn(40)
		day, ok := aging.Reach(plan, pos, today, days)
		if !ok || day > 1000 {
			return
		}
		reached++
		if day <= today || aging.Days(plan, pos, day) < days {
			t.Fatalf("10.10: of %v at %v Reach tells %d from %d for %d days", plan, pos, day, today, days)
		}
		for ahead := today + 1; ahead < day; ahead++ {
			if aging.Days(plan, pos, ahead) >= days {
				t.Fatalf("10.10: of %v at %v Reach tells %d from %d for %d days, but %d is one", plan, pos, day, today, days, ahead)
			}
		}
	})
	if reached < 1000 {
		t.Errorf("only %d were reached", reached)
	}
}

// 10.7, 10.8: what was missed and is marked then is never missed again.
func TestMissedOnce(t *testing.T) {
	soundPlans(1014, 2000, func(random *rand.Rand, plan []api.Instalment) {
		pos := at(random.Int63n(60), 1+random.Int63n(60))
		counts := map[int]int{}
		for today := range 80 {
			missed := aging.Missed(plan, pos, today, 5)
			for _, number := range missed {
				if counts[number]++; counts[number] > 1 || plan[number].Marked {
					t.Fatalf("10.7: row %d of %v is missed again on %d", number, plan, today)
				}
			}
			plan = aging.Mark(plan, missed)
			misses(t, plan, pos, today, 5)
		}
	})
}
