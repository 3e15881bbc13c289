package engine

import (
	"slices"

	"arrears/api"
)

// mayBe tells whether a State may be a portfolio's. What stands in a loan or in a notice is not looked at, but for what the portfolio itself goes by.
func mayBe(s api.State) bool {
	return s.Today >= 1 && s.Today <= api.MaxDay && loansMayBe(s) && noticesMayBe(s.Notices)
}

// loansMayBe tells whether there are not too many loans, by rising number, all of the portfolio's day.
func loansMayBe(s api.State) bool {
	if len(s.Loans) > api.MaxLoans {
		return false
	}
	before := 0
	for _, l := range s.Loans {
		if l.ID <= before || !isNumber(l.ID) || l.Day != s.Today {
			return false
		}
		before = l.ID
	}
	return true
}

// noticesMayBe tells whether the IDs count the notices from 1 on.
func noticesMayBe(notices []api.Notice) bool {
	for i, n := range notices {
		if n.ID != i+1 {
			return false
		}
	}
	return true
}

// isNumber tells whether a loan may have this number.
func isNumber(n int) bool {
	return n >= 1 && n <= api.MaxLoan
}

// copied is a loan that shares no memory with the one that was handed in.
func copied(l api.Loan) api.Loan {
	l.Plan = slices.Clone(l.Plan)
	return l
}
