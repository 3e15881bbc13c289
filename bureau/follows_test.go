package bureau_test

import (
	"math/rand"
	"slices"
	"strings"
	"testing"

	"arrears/api"
	"arrears/bureau"
)

// 24.5: the profile is what somebody would have written down who looked at the loans at each month's end.
func TestProfileIsWhatWasWrittenDown(t *testing.T) {
	random := rand.New(rand.NewSource(245))
	for range 12 {
		p := anyPolicy(random)
		e := begin(t, p)
		written := map[int]string{}
		var ops []api.Op
		months := 0
		for range 100 {
			o := anyOp(random, e)
			if o.Kind == api.OpDay {
				o = days(1 + random.Intn(8))
			}
			// The days are passed one by one: so it is seen when a month ends.
			count := 1
			if o.Kind == api.OpDay {
				o, count = days(1), o.Days
			}
			for range count {
				s := e.Save()
				if o.Kind == api.OpDay && isEnd(s.Today) {
					months++
					for _, l := range s.Loans {
						written[l.ID] = bureau.Code(p, l) + written[l.ID]
					}
				}
				e.Apply(o)
				ops = append(ops, o)
			}
		}
		for _, l := range e.Save().Loans {
			want := written[l.ID] + strings.Repeat("-", 24)
			profiles(t, p, ops, l.ID, 24, want[:24])
			profiles(t, p, ops, l.ID, min(1+months, 24), want[:min(1+months, 24)])
		}
	}
}

// monthOf counts the months up to that of a day.
func monthOf(day int) int {
	d := dateOf(day)
	return 12*d.Year() + int(d.Month())
}

// 24.5: one month on, whatever is done in between, the profile has one new letter, and has lost its last.
func TestOneMonthOn(t *testing.T) {
	random := rand.New(rand.NewSource(2451))
	turned := 0
	for range 10 {
		p := anyPolicy(random)
		e := begin(t, p)
		var ops []api.Op
		old, month := map[int]string{}, monthOf(p.FirstDay)
		for range 100 {
			o := anyOp(random, e)
			if o.Kind == api.OpDay {
				o.Days = among(random, 1, 5, 10, 20, 28)
			}
			e.Apply(o)
			ops = append(ops, o)
			if o.Kind != api.OpDay {
				continue
			}
			s := e.Save()
			now := monthOf(s.Today)
			for _, l := range s.Loans {
				if l.ID > 4 {
					continue // a few are enough, asked often
				}
				got, why := bureau.Profile(p, ops, l.ID, 24)
				was := old[l.ID]
				if was == "" {
					was = strings.Repeat("-", 24)
				}
				if why != api.OK || now == month && got != was || now == month+1 && got[1:] != was[:23] || now > month+1 {
					t.Errorf("24.5: %q has become %q, %d, within %d months", was, got, why, now-month)
				}
				if got != was {
					turned++
				}
				old[l.ID] = got
			}
			month = now
		}
	}
	if turned < 100 {
		t.Errorf("profiles changed %d times", turned)
	}
}

// 24: a file can be made at any later day of the month behind it, and tells the same, whatever is done on the way.
func TestFilesMadeLaterAreTheSame(t *testing.T) {
	random := rand.New(rand.NewSource(2452))
	again := 0
	for range 6 {
		p := anyPolicy(random)
		list := anyHistory(t, random, p, 60)
		last, lastEnd := "", 0
		for count := range list {
			end := modelOf(t, p, list[:count]).end(1)
			text := fileOf(t, p, list[:count])
			if end == lastEnd {
				again++
				if text != last {
					t.Errorf("24.3: behind %s the file is %q, not %q as ahead of it", brief(list[count-1:count]), text, last)
				}
			}
			last, lastEnd = text, end
		}
	}
	if again < 80 {
		t.Errorf("%d files were made again", again)
	}
}

// 24.5: a file in which one digit of one amount is another one is not read.
func TestOneDigitIsSeen(t *testing.T) {
	random := rand.New(rand.NewSource(2453))
	changed := 0
	for range 150 {
		p := anyPolicy(random)
		text := fileOf(t, p, anyHistory(t, random, p, 40))
		place := 0
		for _, line := range strings.SplitAfter(text, "\n") {
			words := strings.Split(line, " ")
			for i, word := range words {
				isAmount := words[0] == "TOTAL" && i > 0 || len(words) == 5 && (i == 2 || i == 3)
				for j := range word {
					if !isAmount || word[j] < '0' || word[j] > '9' {
						continue
					}
					for d := byte('0'); d <= '9'; d++ {
						if d != word[j] {
							changed++
							readsNot(t, text[:place+j]+string([]byte{d})+text[place+j+1:])
						}
					}
				}
				place += len(word) + 1
			}
			place-- // no blank is behind the last word
		}
	}
	if changed < 5000 {
		t.Errorf("%d digits were changed", changed)
	}
}

// 15.11: loans do not touch one another: a loan's profile is the same where the others never were.
func TestOtherLoansCountForNothing(t *testing.T) {
	random := rand.New(rand.NewSource(2454))
	for range 40 {
		p := anyPolicy(random)
		list := anyHistory(t, random, p, 60)
		for id := 1; id <= 12; id++ {
			own := slices.DeleteFunc(slices.Clone(list), func(o api.Op) bool { return o.Kind != api.OpDay && o.Loan != id })
			got, why := bureau.Profile(p, list, id, 24)
			if alone, whyAlone := bureau.Profile(p, own, id, 24); got != alone || why != whyAlone {
				t.Errorf("24.2: of loan %d in %s the profile is %q, %d, alone %q, %d", id, brief(list), got, why, alone, whyAlone)
			}
		}
	}
}
