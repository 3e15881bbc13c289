package statement

import (
	"arrears/api"
	"arrears/calendar"
	"arrears/ledger"
	"arrears/money"
)

// words are those of the kinds of operations that change a portfolio; number 0 is no kind.
var words = [...]string{
	api.OpOpen:        "open",
	api.OpPay:         "pay",
	api.OpReturn:      "return",
	api.OpRefund:      "refund",
	api.OpWaive:       "waive",
	api.OpPromise:     "promise",
	api.OpRestructure: "restructure",
	api.OpDay:         "day",
}

// columns are the accounts that a statement tells, in their order.
var columns = [...]int{api.Principal, api.Interest, api.Fees, api.Unapplied}

// balanceLine tells what stands behind a day.
func balanceLine(word string, moves []api.Movement, day int) (string, bool) {
	book, fits := Upto(moves, day)
	if !fits {
		return "", false
	}
	amounts, fits := tell(book, money.Format)
	if !fits {
		return "", false
	}
	return word + amounts, true
}

// moveLine tells a movement.
func moveLine(m api.Movement) (string, bool) {
	if m.Kind < 1 || m.Kind >= len(words) {
		return "", false
	}
	date, isDay := calendar.FormatDate(m.Day)
	amounts, fit := tell(m.Change, signed)
	if !isDay || !fit {
		return "", false
	}
	return date + " " + words[m.Kind] + amounts, true
}

// tell tells the columns of a book or of a change, a blank ahead of each.
func tell(b api.Book, amount func(cents int64) string) (string, bool) {
	text := ""
	for _, account := range columns {
		// On its own side Unapplied is what is held for the borrower, and the others are what is owed.
		cents, why := ledger.Balance(b, account)
		if why != api.OK {
			return "", false
		}
		text += " " + amount(cents)
	}
	return text, true
}

// signed tells cents with their sign, also where they are above 0.
func signed(cents int64) string {
	if cents > 0 {
		return "+" + money.Format(cents)
	}
	return money.Format(cents)
}
