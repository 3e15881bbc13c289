package report

import (
	"strconv"
	"strings"

	"arrears/api"
	"arrears/calendar"
	"arrears/money"
)

// What the letters of all kinds say ahead of a notice's number, of its date, and of its kind's own words.
const (
	aheadOfID    = "Notice "
	aheadOfDate  = " of "
	aheadOfWords = ": "
)

// wording is what the letters of a kind say around two slots: the loan's number and then the amount, or the other way round.
type wording struct {
	ahead, between, behind string
	amountFirst            bool
}

// wordings stand each at its kind's number; number 0 is no kind. Telling and reading both ask this table, so that they cannot differ.
var wordings = [...]wording{
	api.NoticeBroken:       {ahead: "the promise to pay on loan ", between: " was not kept; ", behind: " is past due."},
	api.NoticeDelinquent:   {ahead: "loan ", between: " is in arrears; ", behind: " is past due."},
	api.NoticeNonAccrual:   {ahead: "interest on loan ", between: " is held in suspense from now on; ", behind: " is past due."},
	api.NoticeChargedOff:   {ahead: "loan ", between: " was charged off; ", behind: " was owed."},
	api.NoticeFee:          {ahead: "a late fee of ", between: " was charged to loan ", behind: ".", amountFirst: true},
	api.NoticeCured:        {ahead: "loan ", between: " is up to date again; ", behind: " is past due."},
	api.NoticeRestructured: {ahead: "loan ", between: " has a new plan; it is over ", behind: "."},
	api.NoticePaidOff:      {ahead: "loan ", between: " is paid off; ", behind: " is owed."},
	api.NoticeReturned:     {ahead: "a payment of ", between: " on loan ", behind: " was returned.", amountFirst: true},
}

// isKind tells whether there are notices of a kind.
func isKind(kind int) bool {
	return kind >= 1 && kind < len(wordings)
}

// tellLetter tells a notice that has a letter, of this date.
func tellLetter(n api.Notice, date string) string {
	words := wordings[n.Kind].fill(strconv.Itoa(n.Loan), money.Format(n.Amount))
	return aheadOfID + strconv.Itoa(n.ID) + aheadOfDate + date + aheadOfWords + words
}

// guess is the notice that a text tells if it is a letter of this kind. Where a part of it is none, the notice is one that has another letter, or has none.
func guess(text string, kind int) api.Notice {
	text, _ = strings.CutPrefix(text, aheadOfID)
	id, text, _ := strings.Cut(text, aheadOfDate)
	date, text, _ := strings.Cut(text, aheadOfWords)
	number, amount := wordings[kind].slots(text)

	n := api.Notice{Kind: kind}
	n.ID, _ = strconv.Atoi(id)
	n.Loan, _ = strconv.Atoi(number)
	n.Day, _ = calendar.ParseDate(date)
	n.Amount, _ = money.Parse(amount)
	return n
}

// fill lays a loan's number and an amount into the slots.
func (w wording) fill(number, amount string) string {
	first, second := number, amount
	if w.amountFirst {
		first, second = amount, number
	}
	return w.ahead + first + w.between + second + w.behind
}

// slots takes out of a text of these words what was laid into the slots.
func (w wording) slots(text string) (number, amount string) {
	text, _ = strings.CutPrefix(text, w.ahead)
	text, _ = strings.CutSuffix(text, w.behind)
	first, second, _ := strings.Cut(text, w.between)
	if w.amountFirst {
		return second, first
	}
	return first, second
}
