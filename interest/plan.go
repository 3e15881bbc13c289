package interest

import (
	"arrears/api"
	"arrears/calendar"
)

// Plan makes the instalments of terms.
func Plan(t api.Terms, holidays []int) ([]api.Instalment, bool) {
	if !valid(t) || len(holidays) > api.MaxHolidays {
		return nil, false
	}
	part := partsOf(t)
	balance := t.Principal
	var plan []api.Instalment
	for place := range t.Count {
		month := place + 1
		earned, _ := Month(balance, t.Rate)
		taken := part(month, balance, earned)
		if earned == 0 && taken == 0 {
			continue
		}
		due, ok := dueDay(t, month, holidays)
		if !ok {
			return nil, false
		}
		plan = append(plan, api.Instalment{Due: due, Interest: earned, Principal: taken})
		balance -= taken
		if balance == 0 {
			break
		}
	}
	return plan, true
}

func valid(t api.Terms) bool {
	_, isDay := calendar.Civil(t.Start)
	return isDay &&
		t.Kind >= api.PlanLevel && t.Kind <= api.PlanBalloon &&
		t.Principal >= 1 && t.Principal <= api.MaxPrincipal &&
		isRate(t.Rate) && isCount(t.Count) &&
		t.Rule >= api.RuleNone && t.Rule <= api.RuleModified
}

// partsOf is how valid terms take a month's principal part off the balance, the first month being 1.
func partsOf(t api.Terms) func(month int, balance, earned int64) int64 {
	switch t.Kind {
	case api.PlanLevel:
		// Never refused: no payment of valid terms is above twice MaxPrincipal.
		payment, _ := Level(t.Principal, t.Rate, t.Count)
		return func(_ int, balance, earned int64) int64 {
			return min(payment-earned, balance)
		}
	case api.PlanEqual:
		share, over := t.Principal/int64(t.Count), t.Principal%int64(t.Count)
		return func(month int, _, _ int64) int64 {
			if int64(month) <= over {
				return share + 1
			}
			return share
		}
	default:
		return func(month int, balance, _ int64) int64 {
			if month < t.Count {
				return 0
			}
			return balance
		}
	}
}

// dueDay is the day on which valid terms' instalment of a month is due, refused if the calendar has none for it.
func dueDay(t api.Terms, month int, holidays []int) (int, bool) {
	start, _ := calendar.Civil(t.Start)
	// Counted from the start each time: from a shorter month on, a start on the 31st would be lost.
	day, ok := calendar.AddMonths(t.Start, month, start.Day)
	if !ok {
		return 0, false
	}
	return calendar.Adjust(day, holidays, t.Rule)
}
