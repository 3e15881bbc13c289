package bureau

import (
	"bytes"
	"strconv"
	"strings"

	"arrears/api"
	"arrears/calendar"
	"arrears/money"
)

// readLine reads a line with its end.
func readLine(text []byte) (line, bool) {
	text, ended := bytes.CutSuffix(text, []byte(lineEnd))
	if !ended {
		return nil, false
	}
	// A word more than the most there may be tells that there are too many.
	words := strings.SplitN(string(text), blank, mostWords+1)
	switch {
	case words[0] == headWord && len(words) == 3:
		return readHead(words)
	case words[0] == footWord && len(words) == 3:
		return readFoot(words)
	case len(words) == mostWords:
		return readEntry(words)
	}
	return nil, false
}

func readHead(words []string) (head, bool) {
	day, isDay := calendar.ParseDate(words[1])
	count, isCount := readNumber(words[2], 0, api.MaxLoans)
	if !isDay || !isCount || day != monthsEnd(day) {
		return head{}, false
	}
	return head{day: day, count: count}, true
}

func readEntry(words []string) (entry, bool) {
	number, isNumber := readNumber(words[0], 1, api.MaxLoan)
	owed, isAmount := readAmount(words[2])
	pastDue, isAmountToo := readAmount(words[3])
	e := entry{loan: number, letter: words[1], owed: owed, pastDue: pastDue, profile: words[4]}
	if !isNumber || !isAmount || !isAmountToo || !e.lettersMayBe() {
		return entry{}, false
	}
	return e, true
}

func readFoot(words []string) (foot, bool) {
	owed, isAmount := readAmount(words[1])
	pastDue, isAmountToo := readAmount(words[2])
	if !isAmount || !isAmountToo {
		return foot{}, false
	}
	return foot{owed: owed, pastDue: pastDue}, true
}

// lettersMayBe tells whether a line's letter is that of a loan, and its profile begins with it.
func (e entry) lettersMayBe() bool {
	isLetter := len(e.letter) == 1 && strings.Contains(letters, e.letter)
	isProfile := len(e.profile) == profileMonths && strings.Trim(e.profile, letters+absentLetter) == ""
	return isLetter && isProfile && strings.HasPrefix(e.profile, e.letter)
}

// readNumber reads a number within bounds, written in the one way there is.
func readNumber(text string, least, most int) (int, bool) {
	number, err := strconv.Atoi(text)
	if err != nil || number < least || number > most || strconv.Itoa(number) != text {
		return 0, false
	}
	return number, true
}

// readAmount reads an amount that is not below 0.
func readAmount(text string) (int64, bool) {
	cents, isAmount := money.Parse(text)
	if !isAmount || cents < 0 {
		return 0, false
	}
	return cents, true
}

// reading is how far a file was read.
type reading struct {
	begun, whole bool // the head was read, the foot was
	missing      int  // how many lines of loans are still to come
	entries      []entry
	totals       foot
}

// take takes the next line, and tells whether it stands in its place.
func (r *reading) take(l line) bool {
	switch l := l.(type) {
	case head:
		if r.begun {
			return false
		}
		r.begun, r.missing = true, l.count
	case entry:
		if r.missing == 0 || len(r.entries) > 0 && r.entries[len(r.entries)-1].loan >= l.loan {
			return false
		}
		r.missing--
		r.entries = append(r.entries, l)
	case foot:
		sums, fit := totals(r.entries)
		if !r.begun || r.whole || r.missing > 0 || !fit || l != sums {
			return false
		}
		r.whole, r.totals = true, l
	}
	return true
}
