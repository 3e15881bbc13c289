package script_test

import (
	"fmt"
	"math"
	"math/rand"
	"slices"
	"strings"
	"testing"

	"arrears/api"
	"arrears/script"
)

// number is one by lot: small, of any size, or at an edge.
func number(random *rand.Rand) int64 {
	const most = 999999999999999999
	switch random.Intn(8) {
	case 0:
		return []int64{0, 1, -1, most, -most, most + 1, -most - 1, math.MaxInt64, math.MinInt64}[random.Intn(9)]
	case 1:
		return int64(random.Uint64())
	case 2:
		return int64(random.Uint64()) >> random.Intn(64)
	}
	return int64(random.Intn(2000) - 300)
}

// letters is a text by lot, now and then one that no line can say.
func letters(random *rand.Rand) string {
	text := make([]byte, random.Intn(12))
	if random.Intn(10) == 0 {
		text = make([]byte, 90+random.Intn(10))
	}
	for i := range text {
		text[i] = "x123456789d"[random.Intn(11)]
		if random.Intn(20) == 0 {
			text[i] = byte(random.Intn(256))
		}
	}
	return string(text)
}

// operation is one by lot.
func operation(random *rand.Rand) api.Op {
	op := api.Op{
		Kind: random.Intn(23), Loan: int(number(random)), Amount: number(random), Rate: number(random),
		Count: int(number(random)), Days: int(number(random)), Text: letters(random),
	}
	if op.Kind == api.OpOpen {
		op.Days = random.Intn(5) - 1
	}
	return op
}

// 18.3, 18.5: what Format tells is read as the operation again, with the fields that its kind has no place for 0 and empty; it has no line end and is not too long.
func TestParseOfFormat(t *testing.T) {
	random := rand.New(rand.NewSource(183))
	told, refused := map[int]int{}, 0
	for range 100000 {
		op := operation(random)
		line, ok := checkFormat(t, op)
		if !ok {
			refused++
			continue
		}
		told[op.Kind]++
		if got, why, place := script.Parse([]byte(line)); got != used(op) || why != api.OK || place != 0 {
			t.Fatalf("18.5: Parse(Format(%+v)) = Parse(%q) = %+v, %d, %d, want %+v", op, line, got, why, place, used(op))
		}
		if strings.Contains(line, "\n") || len(line) > api.MaxLine {
			t.Fatalf("18.3: Format(%+v) = %q", op, line)
		}
		// As the one line of a text it is told again.
		if lines := script.Lines([]byte("\n" + line + "\n")); len(lines) != 1 || string(lines[0]) != line {
			t.Fatalf("18.1: Lines of %q = %q", line, lines)
		}
	}
	for kind := api.OpOpen; kind <= api.OpToday; kind++ {
		if told[kind] < 1000 {
			t.Errorf("too few of a kind: %d operations of kind %d", told[kind], kind)
		}
	}
	if refused < 1000 {
		t.Errorf("too few of a kind: %d refused", refused)
	}
}

// ownLine holds Parse of a line against the model, and Format of what it reads to the line itself.
func ownLine(t *testing.T, line []byte) api.Errno {
	t.Helper()
	why := checkParse(t, line)
	if why != api.OK {
		return why
	}
	op, _, _ := script.Parse(line)
	told, ok := script.Format(op)
	ends := slices.Contains(line, '\n')
	if !ends && (told != string(line) || !ok) || ends && (told != "" || ok) {
		t.Fatalf("18.5: Format(Parse(%q)) = %q, %v", line, told, ok)
	}
	return why
}

// 18.2, 18.5: every byte in each place of a line, one more, and one less: the line is refused, or it is the one line of another operation.
func TestLinesNearOthers(t *testing.T) {
	for _, s := range samples() {
		for place := 0; place <= len(s.line); place++ {
			ahead, behind := s.line[:place], s.line[place:]
			for b := range 256 {
				one := string([]byte{byte(b)})
				ownLine(t, []byte(ahead+one+behind))
				if behind != "" {
					ownLine(t, []byte(ahead+one+behind[1:]))
				}
			}
			ownLine(t, []byte(ahead))
			if behind != "" {
				ownLine(t, []byte(ahead+behind[1:]))
			}
		}
	}
}

// 18.2, 18.5: every field of up to five bytes of those that numbers are made of.
func TestAllShortFields(t *testing.T) {
	read := map[api.Errno]int{}
	for length := range 6 {
		eachText("019-.+ x", length, func(text string) {
			for _, line := range []string{"day " + text, "pay 1 " + text, "crash " + text + " 0"} {
				read[ownLine(t, []byte(line))]++
			}
		})
	}
	if read[api.OK] < 500 || read[api.ErrFields] < 1000 || read[api.ErrNumber] < 1000 {
		t.Errorf("too few of a kind: %v", read)
	}
}

// pieces are what lines by lot are made of.
func pieces() []string {
	list := []string{"", " ", "\n", "-", "0", "1", "12", "-3", "01", "-0", "1.00", "-0.05", "2.5", "level", "equal", "balloon", "x3d", "\xff", "999999999999999999", "1000000000000000000", "92233720368547758.07", "92233720368547758.08"}
	for _, row := range rows {
		list = append(list, row.word)
	}
	return list
}

// lineByLot is a command's word with about as many fields as it wants, any of which may be wrong; or bytes of any kind.
func lineByLot(random *rand.Rand, from []string) []byte {
	if random.Intn(20) == 0 {
		line := make([]byte, random.Intn(110))
		for i := range line {
			line[i] = byte(random.Intn(256))
		}
		return line
	}
	row := rows[random.Intn(len(rows))]
	line := row.word
	for _, name := range row.names {
		field := modelWord(name, number(random))
		if name == "TYPE" {
			field = modelWord(name, int64(random.Intn(4)))
		}
		if name == "LETTERS" {
			field = letters(random)
		}
		if random.Intn(8) == 0 {
			field = from[random.Intn(len(from))]
		}
		line += " " + field
	}
	if random.Intn(8) == 0 {
		line += " " + from[random.Intn(len(from))]
	}
	return []byte(line)
}

// 18.2, 18.5: lines by lot against the model; a line that is read is the one line of its operation.
func TestLinesByLot(t *testing.T) {
	random := rand.New(rand.NewSource(185))
	from := pieces()
	seen := map[api.Errno]int{}
	byOp := map[api.Op]string{}
	for range 200000 {
		line := lineByLot(random, from)
		why := ownLine(t, line)
		seen[why]++
		if why != api.OK || slices.Contains(line, '\n') {
			continue
		}
		op, _, _ := script.Parse(line)
		if other, there := byOp[op]; there && other != string(line) {
			t.Fatalf("18.5: %q and %q are both %+v", other, line, op)
		}
		byOp[op] = string(line)
	}
	for _, why := range []api.Errno{api.OK, api.ErrLong, api.ErrCommand, api.ErrFields, api.ErrNumber} {
		if seen[why] < 100 {
			t.Errorf("too few of a kind: %d with %d", seen[why], why)
		}
	}
}

// modelShow is Show by the library's own telling.
func modelShow(r api.Reply) string {
	text := "ok"
	if r.Err != 0 {
		text = fmt.Sprintf("error %d", r.Err)
	}
	for _, number := range r.Nums {
		text += fmt.Sprintf(" %d", number)
	}
	return text
}

// 18.4, 18.5: different replies have different texts.
func TestTextsOfReplies(t *testing.T) {
	random := rand.New(rand.NewSource(184))
	byText := map[string]string{}
	for range 100000 {
		r := api.Reply{Err: api.Errno(random.Intn(4))}
		if random.Intn(10) == 0 {
			r.Err = api.Errno(number(random))
		}
		for range random.Intn(4) {
			r.Nums = append(r.Nums, number(random)>>random.Intn(9))
		}
		text := script.Show(r)
		if want := modelShow(r); text != want {
			t.Fatalf("18.4: Show(%v) = %q, want %q", r, text, want)
		}
		key := fmt.Sprint(r)
		if other, there := byText[text]; there && other != key {
			t.Fatalf("18.5: %s and %s are both told as %q", other, key, text)
		}
		byText[text] = key
	}
	if len(byText) < 30000 {
		t.Errorf("too few of a kind: %d replies", len(byText))
	}
}
