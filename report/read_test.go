package report_test

import (
	"math/rand"
	"regexp"
	"strconv"
	"strings"
	"testing"
	"time"

	"arrears/api"
	"arrears/report"
)

// The parts of a letter, as patterns.
const (
	numberForm = `([1-9][0-9]*)`
	dateForm   = `([0-9]{4}-[0-9]{2}-[0-9]{2})`
	amountForm = `((?:0|[1-9][0-9]*)\.[0-9]{2})`
)

// letterForm is the pattern of the letters of a kind.
func letterForm(kind int) *regexp.Regexp {
	words := strings.NewReplacer("LOAN", numberForm, "AMOUNT", amountForm, ".", `\.`).Replace(said[kind])
	return regexp.MustCompile(`\ANotice ` + numberForm + ` of ` + dateForm + `: ` + words + `\z`)
}

var letterForms = func() map[int]*regexp.Regexp {
	forms := map[int]*regexp.Regexp{}
	for kind := range said {
		forms[kind] = letterForm(kind)
	}
	return forms
}()

// modelRead reads a letter by its kind's pattern.
func modelRead(letter string) (api.Notice, bool) {
	for kind, form := range letterForms {
		parts := form.FindStringSubmatch(letter)
		if parts == nil {
			continue
		}
		number, amount := parts[3], parts[4]
		if strings.Index(said[kind], "AMOUNT") < strings.Index(said[kind], "LOAN") {
			number, amount = amount, number
		}
		id, idErr := strconv.ParseInt(parts[1], 10, 64)
		loan, loanErr := strconv.ParseInt(number, 10, 64)
		cents, centsErr := strconv.ParseInt(strings.Replace(amount, ".", "", 1), 10, 64)
		date, dateErr := time.Parse(time.DateOnly, parts[2])
		if idErr != nil || loanErr != nil || centsErr != nil || dateErr != nil || date.Year() < 1 {
			return api.Notice{}, false
		}
		return api.Notice{ID: int(id), Loan: int(loan), Kind: kind, Day: dayOf(date), Amount: cents}, true
	}
	return api.Notice{}, false
}

// dayOf is the number of a date's day.
func dayOf(date time.Time) int {
	return int((date.Unix()-time.Date(1, 1, 1, 0, 0, 0, 0, time.UTC).Unix())/86400) + 1
}

// readsAsModel holds ReadLetter to the model, and tells whether the text was a letter.
func readsAsModel(t *testing.T, letter string) bool {
	t.Helper()
	n, ok := modelRead(letter)
	if !ok {
		readsNone(t, letter)
		return false
	}
	reads(t, letter, n)
	tells(t, n, letter)
	return true
}

// samples are a letter of each kind.
func samples() []string {
	var list []string
	for kind := 1; kind <= 9; kind++ {
		list = append(list, letterOf(kind, "12", "2021-09-09", "7", "18554.17"))
	}
	return list
}

// 21.3: a letter in which one byte is another, is missing, is doubled or is too many: read only where it is another letter.
func TestReadEveryByte(t *testing.T) {
	met := 0
	for _, letter := range samples() {
		for at := range len(letter) + 1 {
			for b := range 256 {
				added := letter[:at] + string([]byte{byte(b)}) + letter[at:]
				if readsAsModel(t, added) {
					met++
				}
				if at < len(letter) && readsAsModel(t, letter[:at]+string([]byte{byte(b)})+letter[at+1:]) {
					met++
				}
			}
			readsAsModel(t, letter[:at])
			readsAsModel(t, letter[at:])
			if at < len(letter) {
				readsAsModel(t, letter[:at]+letter[at+1:])
			}
		}
	}
	if met < 500 {
		t.Errorf("21.3: few of these texts are letters: %d", met)
	}
}

// 21.3: the words of one kind with the beginning or the end of another's are a letter of neither.
func TestReadMixedKinds(t *testing.T) {
	for _, a := range samples() {
		for _, b := range samples() {
			for at := range len(a) {
				for _, from := range []int{0, 7, 23, 30, 40, len(b) - 13, len(b) - 10} {
					readsAsModel(t, a[:at]+b[from:])
				}
			}
		}
	}
}

// 21.3: each part of a letter in a form that Letter never tells.
func TestReadNearParts(t *testing.T) {
	numbers := []string{"", "0", "00", "-0", "01", "+1", "-1", " 1", "1 ", "1_000", "1,000", "1.0", "1e3", "0x1", "٣", "9223372036854775807", "9223372036854775808", "18446744073709551617", "1\n", "LOAN"}
	dates := []string{"", "0000-12-31", "0001-01-00", "0001-00-01", "2021-02-29", "2020-02-29", "2021-13-01", "2021-04-31", "10000-01-01", "2021-9-09", "21-09-09", "2021/09/09", "2021-09-09 ", " 2021-09-09", "+021-09-09", "2021-+9-09", "738042"}
	amounts := []string{"", "0", "0.0", "0.000", "00.00", ".00", "0.", "-0.00", "-1.00", "+1.00", "01.00", "1,00", "1.0", "1.000", "1 .00", " 1.00", "92233720368547758.07", "92233720368547758.08", "184467440737095516.17", "1e2.00", "1.-1", "AMOUNT"}
	for kind := 1; kind <= 9; kind++ {
		for _, near := range numbers {
			readsAsModel(t, letterOf(kind, near, "2021-09-09", "7", "1.00"))
			readsAsModel(t, letterOf(kind, "12", "2021-09-09", near, "1.00"))
		}
		for _, near := range dates {
			readsAsModel(t, letterOf(kind, "12", near, "7", "1.00"))
		}
		for _, near := range amounts {
			readsAsModel(t, letterOf(kind, "12", "2021-09-09", "7", near))
		}
		readsNone(t, letterOf(kind, "12", "2021-09-09", "1.00", "7"))
		whole := letterOf(kind, "12", "2021-09-09", "7", "1.00")
		for _, near := range []string{whole + whole, whole + "\n", "\n" + whole, whole + " ", " " + whole, whole + ".", whole[:len(whole)-1], whole + "\x00", strings.ToUpper(whole), strings.ToLower(whole), strings.ReplaceAll(whole, " ", "  "), strings.ReplaceAll(whole, " ", "\u00a0"), strings.ReplaceAll(whole, " ", "\t")} {
			readsNone(t, near)
		}
	}
	for _, none := range []string{"", " ", ".", "Notice ", "Notice  of : ", "Notice 1 of 2021-09-09: ", "Notice 1 of 2021-09-09: .", "Notice 1 of 2021-09-09: loan ", "Notice 1 of 2021-09-09: loan  is in arrears;  is past due."} {
		readsNone(t, none)
	}
}

// 21.3: a long text is refused, whatever it repeats.
func TestReadLongTexts(t *testing.T) {
	for _, piece := range []string{"x", " of ", ": ", "Notice 1 of ", "Notice 1 of 2021-09-09: ", "loan 7 is in arrears; ", "0", "."} {
		readsNone(t, strings.Repeat(piece, 200000))
		readsNone(t, "Notice 1 of 2021-09-09: loan 7 is in arrears; "+strings.Repeat(piece, 200000)+" is past due.")
	}
}

// anyNotice is a notice that has a letter.
func anyNotice(random *rand.Rand) api.Notice {
	number := func() int { return 1 + int(random.Uint64()>>(1+random.Intn(63)))%most }
	return api.Notice{
		ID: number(), Loan: number(), Kind: 1 + random.Intn(9), Day: 1 + random.Intn(api.MaxDay),
		Amount: int64(random.Uint64() >> (1 + random.Intn(63))), Acked: random.Intn(2) == 0,
	}
}

// 21.2, 21.3: drawn notices: each letter is read as its notice and as no other; no two notices that differ have the same letter.
func TestLettersOfDrawnNotices(t *testing.T) {
	random := rand.New(rand.NewSource(213))
	whose := map[string]api.Notice{}
	for range 20000 {
		n := anyNotice(random)
		letter, ok := report.Letter(n)
		n.Acked = false
		if other, met := whose[letter]; !ok || met && other != n {
			t.Fatalf("21.3: Letter(%+v) = %q, %v, as that of %+v", n, letter, ok, other)
		}
		whose[letter] = n
		reads(t, letter, n)
		if !readsAsModel(t, letter) {
			t.Fatalf("21.2: the model refuses %q", letter)
		}
		at := random.Intn(len(letter))
		readsAsModel(t, letter[:at]+string(rune('0'+random.Intn(10)))+letter[at+random.Intn(2):])
	}
}
