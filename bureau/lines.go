package bureau

import (
	"strconv"
	"strings"

	"arrears/calendar"
	"arrears/money"
)

const (
	headWord = "BUREAU"
	footWord = "TOTAL"
	blank    = " "
	lineEnd  = "\n"
)

// mostWords is how many words a line has at most.
const mostWords = 5

// letters are those of the loans that are there.
const letters = closedLetter + chargedOffLetter + promisedLetter + "01234"

// profileMonths is how many letters a profile in a file has.
const profileMonths = 12

// line is one of a file: a head, an entry or a foot.
type line interface {
	words() []string
}

// head begins a file: the month's end, and how many loans are there.
type head struct {
	day, count int
}

// entry is the line of a loan.
type entry struct {
	loan          int
	letter        string
	owed, pastDue int64
	profile       string
}

// foot ends a file: the sums over its loans.
type foot struct {
	owed, pastDue int64
}

func (h head) words() []string {
	date, _ := calendar.FormatDate(h.day)
	return []string{headWord, date, strconv.Itoa(h.count)}
}

func (e entry) words() []string {
	return []string{strconv.Itoa(e.loan), e.letter, money.Format(e.owed), money.Format(e.pastDue), e.profile}
}

func (f foot) words() []string {
	return []string{footWord, money.Format(f.owed), money.Format(f.pastDue)}
}

// tell lays a line behind a file's bytes.
func tell(file []byte, l line) []byte {
	return append(file, strings.Join(l.words(), blank)+lineEnd...)
}
