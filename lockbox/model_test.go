package lockbox_test

import (
	"bytes"
	"fmt"
	"math/rand"
	"regexp"
	"slices"
	"strconv"
	"strings"
	"testing"
	"time"

	"arrears/api"
	"arrears/lockbox"
)

// shapes are the forms of the lines, by the letters of their kinds.
var shapes = map[byte]*regexp.Regexp{
	'H': regexp.MustCompile(`\AH([0-9]{8})([0-9]{6})\z`),
	'D': regexp.MustCompile(`\AD([0-9]{4})([0-9]{6})([0-9])([0-9]{12})\z`),
	'T': regexp.MustCompile(`\AT([0-9]{4})([0-9]{16})([0-9]{10})\z`),
}

// modelDay is the number of a day that is written as eight digits.
func modelDay(digits string) (int, bool) {
	at, err := time.Parse("20060102", digits)
	if err != nil || at.Year() == 0 {
		return 0, false
	}
	return int(at.Unix()/86400) + 719163, true
}

// number reads digits.
func number(digits string) int {
	n, err := strconv.Atoi(digits)
	if err != nil {
		panic(err)
	}
	return n
}

// modelKind is the letter of the kind that a line of this number has.
func modelKind(line int, rest string) byte {
	switch {
	case line == 0:
		return 'H'
	case line == 10000 || line > 1 && strings.HasPrefix(rest, "T"):
		return 'T'
	}
	return 'D'
}

// modelTrailer is the trailer's line behind items.
func modelTrailer(items []api.Item) string {
	sum, hash := int64(0), 0
	for _, i := range items {
		sum += i.Amount
		hash += i.Loan
	}
	return fmt.Sprintf("T%04d%016d%010d", len(items), sum, hash%10000000000)
}

// modelFault is what is wrong with a line of this kind and number, behind what was read so far.
func modelFault(kind byte, line int, text string, b *api.Batch) api.Errno {
	found := shapes[kind].FindStringSubmatch(text)
	if found == nil {
		return api.ErrForm
	}
	switch kind {
	case 'H':
		day, ok := modelDay(found[1])
		if b.Day, b.Number = day, number(found[2]); !ok || b.Number == 0 {
			return api.ErrForm
		}
	case 'D':
		item := api.Item{Loan: number(found[2]), Amount: int64(number(found[4]))}
		switch {
		case item.Loan == 0 || item.Amount == 0:
			return api.ErrForm
		case !modelValid(found[2] + found[3]):
			return api.ErrDigit
		case number(found[1]) != line:
			return api.ErrOrder
		}
		b.Items = append(b.Items, item)
	case 'T':
		if text != modelTrailer(b.Items) {
			return api.ErrTotal
		}
	}
	return api.OK
}

// modelParse reads a file as the chapter's words tell it, line by line.
func modelParse(rest string) (api.Batch, api.Errno, int) {
	var b api.Batch
	for line := 0; ; line++ {
		kind := modelKind(line, rest)
		text, behind, ended := strings.Cut(rest, "\n")
		if !ended {
			return api.Batch{}, api.ErrForm, line
		}
		if why := modelFault(kind, line, text, &b); why != api.OK {
			return api.Batch{}, why, line
		}
		if rest = behind; kind == 'T' {
			if rest != "" {
				return api.Batch{}, api.ErrForm, line + 1
			}
			return b, api.OK, 0
		}
	}
}

// modelFormat tells a batch that has a file.
func modelFormat(b api.Batch) string {
	var told strings.Builder
	day := time.Unix(int64(b.Day-719163)*86400, 0).UTC()
	fmt.Fprintf(&told, "H%04d%02d%02d%06d\n", day.Year(), day.Month(), day.Day(), b.Number)
	for i, item := range b.Items {
		fmt.Fprintf(&told, "D%04d%06d%d%012d\n", i+1, item.Loan, modelDigit(item.Loan), item.Amount)
	}
	return told.String() + modelTrailer(b.Items) + "\n"
}

// checkParse holds Parse of a file to the model, and Format of what it reads to the file itself.
func checkParse(t *testing.T, file string) api.Errno {
	t.Helper()
	given := []byte(file)
	b, why, line := lockbox.Parse(given)
	if string(given) != file {
		t.Fatalf("20.1: Parse changes the file %q", file)
	}
	wantB, wantWhy, wantLine := modelParse(file)
	if !sameBatch(b, wantB) || why != wantWhy || line != wantLine {
		t.Fatalf("20.4: Parse(%q) = %+v, %d, %d, want %+v, %d, %d", file, b, why, line, wantB, wantWhy, wantLine)
	}
	if why == api.OK {
		if told, ok := lockbox.Format(b); string(told) != file || !ok {
			t.Fatalf("20.8: Format(Parse(%q)) = %q, %v", file, told, ok)
		}
	}
	return why
}

// among draws one of a list.
func among[T any](random *rand.Rand, list ...T) T { return list[random.Intn(len(list))] }

// anyBatch draws a batch that has a file.
func anyBatch(random *rand.Rand, items int) api.Batch {
	b := api.Batch{Day: among(random, 1, api.MaxDay, first, 1+random.Intn(api.MaxDay)), Number: among(random, 1, api.MaxBatch, 1+random.Intn(api.MaxBatch))}
	for range items {
		b.Items = append(b.Items, api.Item{
			Loan:   among(random, 1, 7, api.MaxLoan, 1+random.Intn(api.MaxLoan)),
			Amount: among(random, 1, api.MaxItem, 1+random.Int63n(api.MaxItem), 1+random.Int63n(100000)),
		})
	}
	return b
}

// spoiled is a file with one thing done to it.
func spoiled(random *rand.Rand, file []byte) []byte {
	place := random.Intn(len(file) + 1)
	digit := byte('0' + random.Intn(10))
	other := among(random, digit, digit, digit, digit, '\n', 'T', 'D', 'H', ' ', '\r', byte(random.Intn(256)))
	switch random.Intn(8) {
	case 0:
		return slices.Insert(bytes.Clone(file), place, other)
	case 1:
		return bytes.Clone(file[:place])
	case 2:
		lines := bytes.SplitAfter(file, []byte("\n"))
		i, j := random.Intn(len(lines)), random.Intn(len(lines))
		lines[i], lines[j] = lines[j], lines[i]
		return bytes.Join(lines, nil)
	case 3:
		lines := bytes.SplitAfter(file, []byte("\n"))
		i := random.Intn(len(lines))
		return bytes.Join(slices.Concat(lines[:i], among(random, nil, lines[i:i+1], lines[i:i+1]), lines[i+1-random.Intn(2):]), nil)
	}
	if place == len(file) {
		return append(bytes.Clone(file), other)
	}
	changed := bytes.Clone(file)
	changed[place] = other
	return changed
}

// 20.4, 20.8: drawn files, whole and spoiled in one way or in several, against the model.
func TestParseAgainstModel(t *testing.T) {
	random := rand.New(rand.NewSource(204))
	seen := map[api.Errno]int{}
	for range 40000 {
		file := []byte(modelFormat(anyBatch(random, 1+random.Intn(6))))
		for range random.Intn(4) {
			file = spoiled(random, file)
		}
		seen[checkParse(t, string(file))]++
	}
	for _, why := range []api.Errno{api.OK, api.ErrForm, api.ErrDigit, api.ErrOrder, api.ErrTotal} {
		if seen[why] < 500 {
			t.Errorf("few files are answered %d: %d", why, seen[why])
		}
	}
}

// 20.1, 20.4: any bytes, and any lines that look like a file's.
func TestParseOfAnyBytes(t *testing.T) {
	random := rand.New(rand.NewSource(2041))
	for range 20000 {
		file := make([]byte, random.Intn(60))
		for i := range file {
			file[i] = among(random, 'H', 'D', 'T', '\n', '0', '1', byte(random.Intn(256)))
		}
		checkParse(t, string(file))
		checkParse(t, headerLine+string(file))
		checkParse(t, headerLine+firstLine+string(file))
		checkParse(t, exampleFile+string(file))
	}
}

// 20.8: Parse of Format gives the batch back.
func TestThereAndBack(t *testing.T) {
	random := rand.New(rand.NewSource(208))
	for range 3000 {
		b := anyBatch(random, 1+random.Intn(30))
		file, ok := lockbox.Format(b)
		if want := modelFormat(b); string(file) != want || !ok {
			t.Fatalf("20.5: Format(%+v) = %q, %v, want %q", b, file, ok, want)
		}
		if got, why, line := lockbox.Parse(file); !sameBatch(got, b) || why != api.OK || line != 0 {
			t.Fatalf("20.8: Parse(Format(%+v)) = %+v, %d, %d", b, got, why, line)
		}
	}
}
