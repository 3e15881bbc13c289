package lockbox_test

import (
	"fmt"
	"math/rand"
	"strings"
	"testing"

	"arrears/api"
	"arrears/lockbox"
)

// 20.4: where the file ends, ahead of a line or within it.
func TestFileThatEnds(t *testing.T) {
	ends := []int{len(headerLine), len(headerLine + firstLine), len(headerLine + firstLine + secondLine), len(exampleFile)}
	line := 0
	for length := range len(exampleFile) {
		if length == ends[line] {
			line++
		}
		refuses(t, exampleFile[:length], api.ErrForm, line)
	}
	reads(t, exampleFile, exampleBatch())
}

// 20.4, 20.9: each byte of a file is changed to every other one, left out, or has another ahead of it: all is the model's, and behind the header's line nothing that is changed is read.
func TestEveryByte(t *testing.T) {
	random := rand.New(rand.NewSource(2042))
	for _, file := range []string{exampleFile, modelFormat(anyBatch(random, 1)), modelFormat(anyBatch(random, 3))} {
		for place := range len(file) {
			ahead, behind := file[:place], file[place+1:]
			for b := range 256 {
				one := string([]byte{byte(b)})
				why := checkParse(t, ahead+one+behind)
				if place >= len(headerLine)-1 && one != file[place:place+1] && why == api.OK {
					t.Fatalf("20.9: the byte %d of %q is changed to %q, and Parse reads it", place, file, one)
				}
				checkParse(t, ahead+one+file[place:])
			}
			checkParse(t, ahead+behind)
		}
	}
}

// 20.4: the header's own faults.
func TestHeader(t *testing.T) {
	rest := firstLine + secondLine + trailerLine
	for _, line := range []string{
		"", "H", "20210729000012", "H2021072900012", "H202107290000012", "H20210729000012 ", " H20210729000012", "h20210729000012", "D20210729000012", "T20210729000012",
		"H2021072900001a", "H 0210729000012", "H+0210729000012", "H-0210729000012", "H2021-07-29012", "H20210729000012\r", "H20210729000000", "H20210229000012", "H20210700000012", "H20210732000012",
		"H20210029000012", "H20211301000012", "H00000729000012", "H19000229000012", "H99999999000012", "H20210631000012", strings.TrimSpace(firstLine), strings.TrimSpace(trailerLine),
	} {
		refuses(t, line+"\n"+rest, api.ErrForm, 0)
	}
	for line, want := range map[string]api.Batch{
		"H00010101000001": {Day: 1, Number: 1}, "H99991231999999": {Day: api.MaxDay, Number: api.MaxBatch}, "H20000229000010": {Day: 730179, Number: 10}, "H20240229100000": {Day: 738945, Number: 100000},
	} {
		want.Items = exampleBatch().Items
		reads(t, line+"\n"+rest, want)
	}
}

// 20.4: of every month of some years, which days are days of the calendar.
func TestHeaderDays(t *testing.T) {
	for _, year := range []int{0, 1, 4, 100, 400, 1900, 2000, 2023, 2024, 9999} {
		for month := range 15 {
			for day := range 40 {
				checkParse(t, fmt.Sprintf("H%04d%02d%02d000012\n", year, month, day)+firstLine+secondLine+trailerLine)
			}
		}
	}
}

// 20.4: the faults of a detail, each ahead of those behind it in the chapter's order; a fault of a later line counts for nothing.
func TestDetail(t *testing.T) {
	for _, c := range []struct {
		line string
		why  api.Errno
	}{
		{"", api.ErrForm}, {"D", api.ErrForm}, {"d00010000075000000010000", api.ErrForm}, {"H00010000075000000010000", api.ErrForm}, {"T00010000075000000010000", api.ErrForm},
		{"D0001000007500000010000", api.ErrForm}, {"D000100000750000000010000", api.ErrForm}, {"D00010000075000000010000 ", api.ErrForm}, {" D00010000075000000010000", api.ErrForm}, {"D00010000075000000010000\r", api.ErrForm},
		{"D 0010000075000000010000", api.ErrForm}, {"D+0010000075000000010000", api.ErrForm}, {"D000100000a5000000010000", api.ErrForm}, {"D0001000007x000000010000", api.ErrForm}, {"D00010000075-00000010000", api.ErrForm}, {"D000100000750000000100.0", api.ErrForm},
		// Loan 0 or amount 0 is ahead of a wrong digit, that ahead of a wrong sequence.
		{"D00010000000000000010000", api.ErrForm}, {"D00010000075000000000000", api.ErrForm}, {"D00010000000000000000000", api.ErrForm}, {"D00090000003000000010000", api.ErrForm}, {"D00090000079000000000000", api.ErrForm},
		{"D00010000074000000010000", api.ErrDigit}, {"D00010000070000000010000", api.ErrDigit}, {"D00010000705000000010000", api.ErrDigit}, {"D00090000076000000010000", api.ErrDigit}, {"D00000000076000000010000", api.ErrDigit},
		{"D00000000075000000010000", api.ErrOrder}, {"D00020000075000000010000", api.ErrOrder}, {"D10010000075000000010000", api.ErrOrder}, {"D99990000075000000010000", api.ErrOrder},
	} {
		for _, rest := range []string{secondLine + trailerLine, "", "?\n", "D00020000000000000000005\n" + trailerLine, trailerLine} {
			refuses(t, headerLine+c.line+"\n"+rest, c.why, 1)
		}
		// The same as the second detail; but what begins with T is a trailer there, and one of the wrong form.
		line := strings.Replace(c.line, "D0001", "D0002", 1)
		if c.line == "D00020000075000000010000" {
			line = "D00010000075000000010000"
		}
		refuses(t, headerLine+firstLine+line+"\n"+trailerLine, c.why, 2)
	}
	reads(t, headerLine+"D00019999996999999999999\n"+"T000100009999999999990000999999\n", api.Batch{Day: first, Number: 12, Items: []api.Item{{Loan: api.MaxLoan, Amount: api.MaxItem}}})
	reads(t, headerLine+"D00010000018000000000001\n"+"T000100000000000000010000000001\n", api.Batch{Day: first, Number: 12, Items: []api.Item{{Loan: 1, Amount: 1}}})
}

// 20.4: the trailer's faults, and what stands behind it.
func TestTrailer(t *testing.T) {
	ahead := headerLine + firstLine + secondLine
	for _, line := range []string{
		"T", "T00020000000000010005000045013", "T0002000000000001000500004501300", "T00020000000000010005000045013x", "T 00200000000000100050000450130", "T000200000000000100050000450130\r", "T000200000000000100050000450130 ", "t000200000000000100050000450130", "D000200000000000100050000450130",
	} {
		refuses(t, ahead+line+"\n", api.ErrForm, 3)
		refuses(t, ahead+line+"\n"+trailerLine, api.ErrForm, 3)
	}
	for _, line := range []string{
		"T000100000000000100050000450130", "T000300000000000100050000450130", "T000000000000000000000000000000", "T100200000000000100050000450130", "T000200000000000100040000450130", "T000210000000000100050000450130", "T000200000000000100050000450131", "T000200000000000100051000450130",
		"T000200000000000100060000450129", "T999999999999999999999999999999",
	} {
		for _, rest := range []string{"", "\n", trailerLine} {
			refuses(t, ahead+line+"\n"+rest, api.ErrTotal, 3)
		}
	}
	for _, rest := range []string{"\n", "\x00", " ", "T", trailerLine, exampleFile, "\r\n", strings.Repeat("\n", 100)} {
		refuses(t, exampleFile+rest, api.ErrForm, 4)
	}
}

// 20.4: line 1 is a detail, and from line 2 on what begins with T is the trailer.
func TestTrailerTooEarly(t *testing.T) {
	for _, line := range []string{"T000000000000000000000000000000\n", trailerLine, "T\n", "T"} {
		refuses(t, headerLine+line, api.ErrForm, 1)
	}
	refuses(t, headerLine+firstLine+trailerLine+secondLine+trailerLine, api.ErrTotal, 2)
	refuses(t, headerLine+firstLine+"T0001\n"+secondLine+trailerLine, api.ErrForm, 2)
	refuses(t, trailerLine, api.ErrForm, 0)
}

// many is a file of so many details, without its trailer, and the items of them.
func many(count int) (string, []api.Item) {
	b := api.Batch{Day: first, Number: 12}
	for i := range count {
		b.Items = append(b.Items, api.Item{Loan: api.MaxLoan - i, Amount: api.MaxItem - int64(i%3)})
	}
	file := modelFormat(b)
	return file[:len(file)-32], b.Items
}

// 20.4: as many details as there may be, one less, and one more: line 10000 is a trailer, whatever it begins with.
func TestManyDetails(t *testing.T) {
	for _, count := range []int{api.MaxItems - 1, api.MaxItems} {
		ahead, items := many(count)
		trailer := modelTrailer(items) + "\n"
		reads(t, ahead+trailer, api.Batch{Day: first, Number: 12, Items: items})
		refuses(t, ahead, api.ErrForm, count+1)
		refuses(t, ahead+trailer[:31], api.ErrForm, count+1)
		refuses(t, ahead+trailer+"\n", api.ErrForm, count+2)
		refuses(t, ahead+strings.Replace(trailer, "T9", "T8", 1), api.ErrTotal, count+1)
		refuses(t, ahead+"T\n", api.ErrForm, count+1)
		// A detail out of its turn stands in line 9999; in line 10000 there is none.
		why := api.ErrOrder
		if count == api.MaxItems {
			why = api.ErrForm
		}
		for _, line := range []string{firstLine, "D00000000075000000010000\n", "D10000000075000000010000\n"} {
			if line == "D10000000075000000010000\n" && count != api.MaxItems {
				continue
			}
			refuses(t, ahead+line+trailer, why, count+1)
		}
		for _, file := range []string{ahead + trailer, ahead + firstLine + trailer, ahead + "\n" + trailer, ahead + "X" + trailer[1:], ahead + "D" + trailer[1:]} {
			checkParse(t, file)
		}
	}
}

// 20.1: a call ends soon, however long the file is.
func TestLongFiles(t *testing.T) {
	for _, part := range []string{"\n", "H", "0", "D", "T", firstLine, trailerLine} {
		long := strings.Repeat(part, 1<<24/len(part))
		refuses(t, long, api.ErrForm, 0)
		checkParse(t, headerLine+long)
		checkParse(t, headerLine+firstLine+long)
		refuses(t, exampleFile+long, api.ErrForm, 4)
	}
}

// 20.9 does not reach the header: another day or number there is another batch.
func TestOtherHeaders(t *testing.T) {
	b := exampleBatch()
	b.Number = 13
	reads(t, strings.Replace(exampleFile, "000012", "000013", 1), b)
	if _, why, _ := lockbox.Parse([]byte(strings.Replace(exampleFile, "0729", "0728", 1))); why != api.OK {
		t.Errorf("20.4: the day ahead is refused: %d", why)
	}
}
