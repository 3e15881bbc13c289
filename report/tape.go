package report

import (
	"strconv"
	"strings"

	"arrears/api"
	"arrears/calendar"
	"arrears/collect"
	"arrears/money"
)

// noDay stands in the place of a date where there is none.
const noDay = "-"

// tapeLine is the tape's line of a loan that looks so.
func tapeLine(l api.Loan, v api.View) string {
	return strings.Join([]string{
		strconv.Itoa(l.ID),
		collect.Name(v.Status),
		strconv.Itoa(v.Days),
		strconv.Itoa(v.Bucket),
		money.Format(v.PastDue),
		money.Format(v.Fees),
		money.Format(v.Interest),
		money.Format(v.Principal),
		money.Format(v.Unapplied),
		dueDate(v.NextDue),
	}, " ")
}

// dueDate tells the day on which a loan is due next, if it is due at all.
func dueDate(day int) string {
	if day == 0 {
		return noDay
	}
	date, _ := calendar.FormatDate(day)
	return date
}
