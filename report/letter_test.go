package report_test

import (
	"strconv"
	"strings"
	"testing"

	"arrears/api"
	"arrears/report"
)

// text is a number's decimal digits.
func text(n int) string { return strconv.Itoa(n) }

// said is the chapter's table: what the letters of each kind say behind the colon.
var said = map[int]string{
	1: "the promise to pay on loan LOAN was not kept; AMOUNT is past due.",
	2: "loan LOAN is in arrears; AMOUNT is past due.",
	3: "interest on loan LOAN is held in suspense from now on; AMOUNT is past due.",
	4: "loan LOAN was charged off; AMOUNT was owed.",
	5: "a late fee of AMOUNT was charged to loan LOAN.",
	6: "loan LOAN is up to date again; AMOUNT is past due.",
	7: "loan LOAN has a new plan; it is over AMOUNT.",
	8: "loan LOAN is paid off; AMOUNT is owed.",
	9: "a payment of AMOUNT on loan LOAN was returned.",
}

// letterOf is a letter as the chapter's table says it, of parts that are texts already.
func letterOf(kind int, id, date, number, amount string) string {
	words := strings.NewReplacer("LOAN", number, "AMOUNT", amount).Replace(said[kind])
	return "Notice " + id + " of " + date + ": " + words
}

// edge is a number or an amount, and how it is told.
type edge[T any] struct {
	n    T
	told string
}

var (
	numberEdges = []edge[int]{{1, "1"}, {9, "9"}, {10, "10"}, {999999, "999999"}, {1000000, "1000000"}, {most - 1, "9223372036854775806"}, {most, "9223372036854775807"}}
	dayEdges    = []edge[int]{{1, "0001-01-01"}, {31, "0001-01-31"}, {32, "0001-02-01"}, {730179, "2000-02-29"}, {738000, "2021-07-29"}, {api.MaxDay - 1, "9999-12-30"}, {api.MaxDay, "9999-12-31"}}
	amountEdges = []edge[int64]{{0, "0.00"}, {1, "0.01"}, {10, "0.10"}, {99, "0.99"}, {100, "1.00"}, {1001, "10.01"}, {1 << 62, "46116860184273879.04"}, {most, "92233720368547758.07"}}
)

// 21.2, 21.3: every kind with every edge of its numbers, and back; whether it is acknowledged is not told.
func TestLetters(t *testing.T) {
	for kind := 1; kind <= 9; kind++ {
		for _, id := range numberEdges {
			for _, number := range numberEdges {
				for _, day := range dayEdges {
					for _, amount := range amountEdges {
						n := api.Notice{ID: id.n, Loan: number.n, Kind: kind, Day: day.n, Amount: amount.n}
						letter := letterOf(kind, id.told, day.told, number.told, amount.told)
						tells(t, n, letter)
						reads(t, letter, n)
						n.Acked = true
						tells(t, n, letter)
					}
				}
			}
		}
	}
}

// 21.2: each number outside its range is refused, whatever the others are.
func TestLettersThatAreNone(t *testing.T) {
	whole := func(kind int) api.Notice { return api.Notice{ID: 3, Loan: 7, Kind: kind, Day: first, Amount: 1500} }
	for kind := 1; kind <= 9; kind++ {
		for _, low := range []int{0, -1, -7, least + 1, least} {
			n := whole(kind)
			n.ID = low
			tellsNone(t, n)
			n = whole(kind)
			n.Loan = low
			tellsNone(t, n)
			n = whole(kind)
			n.Day = low
			tellsNone(t, n)
			n = whole(low)
			tellsNone(t, n)
		}
		for _, day := range []int{api.MaxDay + 1, api.MaxDay + 2, 1 << 40, most} {
			n := whole(kind)
			n.Day = day
			tellsNone(t, n)
		}
		for _, amount := range []int64{-1, -100, least + 1, least} {
			n := whole(kind)
			n.Amount = amount
			tellsNone(t, n)
		}
	}
	for _, kind := range []int{10, 11, 256 + 1, 1 << 32, most} {
		tellsNone(t, whole(kind))
	}
	tellsNone(t, api.Notice{})
	tellsNone(t, api.Notice{Acked: true})
}

// 21.2: the notices that a portfolio owes have letters, of every kind.
func TestLettersOfAPortfolio(t *testing.T) {
	p, s := everyStatus(t)
	e := resumed(t, p, s)
	e.Apply(pay(1, 100))
	if r := e.Apply(api.Op{Kind: api.OpReturn, Loan: 1}); r.Err != api.OK {
		t.Fatalf("15.5: a return is answered %d", r.Err)
	}
	met := map[int]int{}
	for _, n := range e.Save().Notices {
		letter, ok := report.Letter(n)
		if !ok {
			t.Errorf("21.2: Letter(%+v) is refused", n)
		}
		reads(t, letter, n)
		met[n.Kind]++
	}
	for kind := 1; kind <= 9; kind++ {
		if met[kind] == 0 {
			t.Errorf("21.2: no notice of kind %d: %v", kind, met)
		}
	}
}
