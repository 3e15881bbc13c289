package report_test

import (
	"math/rand"
	"strconv"
	"strings"
	"testing"

	"arrears/api"
	"arrears/report"
)

// principals adds up the eighth words of a tape.
func principals(t *testing.T, lines []string) int64 {
	t.Helper()
	sum := int64(0)
	for _, line := range lines {
		words := strings.Split(line, " ")
		if len(words) != 10 {
			t.Fatalf("21.1: the line %q has %d words", line, len(words))
		}
		cents, err := strconv.ParseInt(strings.Replace(words[7], ".", "", 1), 10, 64)
		if err != nil {
			t.Fatalf("21.1: no amount: %q", words[7])
		}
		sum += cents
	}
	return sum
}

// 21.8: the tape's principals are those of the books, and debits equal credits.
func TestTapeAndBooksAgree(t *testing.T) {
	random := rand.New(rand.NewSource(218))
	for range 200 {
		p := anyPolicy(random)
		e := begin(t, p)
		for range 5 {
			live(random, e, 20)
			s := e.Save()
			want := e.Ask(api.Op{Kind: api.OpBooks}).Nums[api.Principal]
			if got := principals(t, report.Tape(p, s)); got != want {
				t.Fatalf("21.8: the principals on the tape add up to %d, in the books to %d", got, want)
			}
			if debit, credit, ok := report.Trial(s); debit != credit || !ok {
				t.Fatalf("21.8: Trial = %d, %d, %v", debit, credit, ok)
			}
		}
	}
}

// 21.8: each loan of the earlier portfolio is counted once in the later one; what is charged off or closed stays so.
func TestRollOfALaterState(t *testing.T) {
	random := rand.New(rand.NewSource(2185))
	over := 0
	for range 200 {
		p := anyPolicy(random)
		e := begin(t, p)
		for range 5 {
			before := e.Save()
			live(random, e, 20)
			var classes [7]int
			for _, l := range before.Loans {
				classes[report.Class(p, l)]++
			}
			counts := report.Roll(p, before, e.Save())
			for from, row := range counts {
				sum := 0
				for to, count := range row {
					sum += count
					if from >= 5 && to != from && count > 0 {
						t.Fatalf("21.8: of class %d come %d to class %d", from, count, to)
					}
				}
				if sum != classes[from] {
					t.Fatalf("21.8: row %d counts %d loans of %d", from, sum, classes[from])
				}
			}
			over += counts[5][5] + counts[6][6]
			var still [7][7]int
			for class, count := range classes {
				still[class][class] = count
			}
			rolls(t, p, before, before, still)
		}
	}
	if over < 500 {
		t.Errorf("few loans were over: %d", over)
	}
}

// 21.8: an allowance is at most the exposure, which the whole rate tells; and with a greater rate it is never less.
func TestAllowanceRisesWithTheRate(t *testing.T) {
	random := rand.New(rand.NewSource(2186))
	for range 200 {
		p := anyPolicy(random)
		e := begin(t, p)
		live(random, e, 1+random.Intn(80))
		s := e.Save()
		exposed, _ := report.Allowance(p, s, all(10000))
		before := all(0)
		for rate := int64(0); rate <= 10000; rate += 1 + random.Int63n(900) {
			amounts, ok := report.Allowance(p, s, all(rate))
			for class, amount := range amounts {
				if !ok || amount < before[class] || amount > exposed[class] {
					t.Fatalf("21.8: Allowance by %d = %v, %v, behind %v, of %v", rate, amounts, ok, before, exposed)
				}
			}
			before = amounts
		}
	}
}
