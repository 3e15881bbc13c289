package statement_test

import (
	"math/rand"
	"slices"
	"strings"
	"testing"

	"arrears/api"
	"arrears/money"
	"arrears/statement"
)

// told are the movements of a loan.
func told(t *testing.T, p api.Policy, list []api.Op, id int) []api.Movement {
	t.Helper()
	got, why := statement.Moves(p, list, id)
	if why != api.OK {
		t.Fatalf("22.1: Moves = %d", why)
	}
	return got
}

// 22.5: the sum of all movements of a loan is its book; each movement's debits equal its credits; their days rise or stay.
func TestMovesComeToTheBook(t *testing.T) {
	random := rand.New(rand.NewSource(225))
	for range 80 {
		p := anyPolicy(random)
		list, s := anyHistory(t, random, p, 70)
		for _, l := range s.Loans {
			got := told(t, p, list, l.ID)
			comes(t, got, s.Today, l.Book)
			comes(t, got, most, l.Book)
			comes(t, got, first-1, api.Book{})
			day := first
			for _, m := range got {
				sum, ok := money.Sum(m.Change.Net[:])
				if sum != 0 || !ok {
					t.Fatalf("22.5: the debits of %+v do not equal its credits", m)
				}
				if m.Day < day || m.Day > s.Today {
					t.Fatalf("22.5: the movement %+v stands behind the day %d", m, day)
				}
				day = m.Day
			}
		}
	}
}

// numbers are the four columns of a line.
func numbers(t *testing.T, line string) [4]int64 {
	t.Helper()
	words := strings.Split(line, " ")
	var columns [4]int64
	for i, word := range words[max(0, len(words)-4):] {
		cents, ok := money.Parse(strings.TrimPrefix(word, "+"))
		if !ok || word == "+0.00" {
			t.Fatalf("22.4: no amount in %q", line)
		}
		columns[i] = cents
	}
	return columns
}

// 22.5: the opening and all changes come to the closing; the opening is the closing of the statement that ends a day ahead.
func TestStatementsJoin(t *testing.T) {
	random := rand.New(rand.NewSource(2255))
	for range 60 {
		p := anyPolicy(random)
		list, s := anyHistory(t, random, p, 60)
		for _, l := range s.Loans {
			got := told(t, p, list, l.ID)
			closing := "0.00 0.00 0.00 0.00"
			for from := first - 3; from <= s.Today; {
				to := from + among(random, 0, 0, 1, 5, random.Intn(40), random.Intn(400))
				lines, ok := statement.Lines(got, from, to)
				if !ok || strings.TrimPrefix(lines[1], "OPENING ") != closing {
					t.Fatalf("22.5: Lines(%d, %d) = %q, %v, behind the closing %q", from, to, lines, ok, closing)
				}
				sums := numbers(t, lines[1])
				for _, line := range lines[2 : len(lines)-1] {
					for i, cents := range numbers(t, line) {
						sums[i] += cents
					}
				}
				if last := lines[len(lines)-1]; numbers(t, last) != sums {
					t.Fatalf("22.5: the closing is %q, the changes come to %v", last, sums)
				}
				closing = strings.TrimPrefix(lines[len(lines)-1], "CLOSING ")
				from = to + 1
			}
		}
	}
}

// 22.5: what stands behind a day, and the movements behind it up to another, are together what stands behind that one.
func TestBooksJoin(t *testing.T) {
	random := rand.New(rand.NewSource(2256))
	for range 20000 {
		list := anyMoves(random)
		day := among(random, least, -1, 0, 1, 2, 3, 4, 5, api.MaxDay, most-1)
		later := among(random, -1, 0, 1, 3, 6, api.MaxDay, api.MaxDay+1, most)
		before, ok := statement.Upto(list, day)
		after, okToo := statement.Upto(list, later)
		if !ok || !okToo || later <= day {
			continue
		}
		joined := append([]api.Movement{{Day: 1, Kind: 1, Change: before}}, statement.Within(list, day+1, later)...)
		for i := range joined {
			joined[i].Day = 1
		}
		comes(t, joined, 1, after)
	}
}

// 22.5: the past stands: the movements of a history that goes on begin with those that it had.
func TestThePastStands(t *testing.T) {
	random := rand.New(rand.NewSource(2257))
	for range 12 {
		p := anyPolicy(random)
		list, s := anyHistory(t, random, p, 50)
		for _, l := range s.Loans[:3] {
			whole := told(t, p, list, l.ID)
			for cut := range len(list) {
				part := told(t, p, list[:cut], l.ID)
				if len(part) > len(whole) || !slices.Equal(part, whole[:len(part)]) {
					t.Fatalf("22.5: of %d operations the movements are %+v, of all %+v", cut, part, whole)
				}
			}
		}
	}
}

// 22.5: a day operation has the movements of its days, however it is divided.
func TestDaysDivide(t *testing.T) {
	random := rand.New(rand.NewSource(2258))
	for range 50 {
		p := anyPolicy(random)
		list, s := anyHistory(t, random, p, 60)
		var divided []api.Op
		for _, o := range list {
			if o.Kind == api.OpDay && o.Days > 1 && o.Days <= api.MaxSpan {
				part := 1 + random.Intn(o.Days-1)
				divided = append(divided, days(part))
				o.Days -= part
			}
			divided = append(divided, o)
		}
		for _, l := range s.Loans {
			moves(t, p, divided, l.ID, told(t, p, list, l.ID)...)
		}
	}
}

// 15.11: a loan's movements hang on its own operations and the days alone, where the others crowd nothing out.
func TestOtherLoansCountForNothing(t *testing.T) {
	random := rand.New(rand.NewSource(2259))
	for range 60 {
		p := anyPolicy(random)
		list, s := anyHistory(t, random, p, 60)
		for _, l := range s.Loans {
			own := slices.DeleteFunc(slices.Clone(list), func(o api.Op) bool { return o.Kind != api.OpDay && o.Loan != l.ID })
			moves(t, p, list, l.ID, told(t, p, own, l.ID)...)
		}
	}
}
