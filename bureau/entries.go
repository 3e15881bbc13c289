package bureau

import (
	"strings"

	"arrears/api"
	"arrears/loan"
	"arrears/money"
)

// entriesOf are the lines of the loans that are there at the last of the months' ends; false: what a loan owes does not fit.
func entriesOf(p api.Policy, ends []api.State) ([]entry, bool) {
	var entries []entry
	for _, l := range ends[len(ends)-1].Loans {
		v := loan.Look(p, l)
		owed, fits := money.Sum([]int64{v.Fees, v.Interest, v.Principal})
		if !fits {
			return nil, false
		}
		profile := profileOf(p, ends, l.ID, profileMonths)
		entries = append(entries, entry{loan: l.ID, letter: letterOf(v), owed: owed, pastDue: v.PastDue, profile: profile})
	}
	return entries, true
}

// profileOf is a loan's letters at so many months' ends, the latest first. Where there are fewer, the months ahead of them are ahead of the first day too.
func profileOf(p api.Policy, ends []api.State, id, months int) string {
	profile := strings.Repeat(absentLetter, months)
	for _, s := range ends {
		// A month on, the last letter has gone.
		profile = letterIn(p, s, id) + profile[:months-1]
	}
	return profile
}

// letterIn is the letter of the loan of that number in a portfolio.
func letterIn(p api.Policy, s api.State, id int) string {
	for _, l := range s.Loans {
		if l.ID == id {
			return Code(p, l)
		}
	}
	return absentLetter
}

// totals are the sums over lines; false: one does not fit.
func totals(entries []entry) (foot, bool) {
	var owed, pastDue []int64
	for _, e := range entries {
		owed, pastDue = append(owed, e.owed), append(pastDue, e.pastDue)
	}
	owing, fits := money.Sum(owed)
	late, fitsToo := money.Sum(pastDue)
	return foot{owed: owing, pastDue: late}, fits && fitsToo
}
