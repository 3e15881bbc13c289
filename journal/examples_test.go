package journal_test

import (
	"encoding/binary"
	"fmt"
	"hash/crc32"
	"strings"
	"testing"

	"arrears/api"
	"arrears/disk"
	"arrears/journal"
)

// framed is the frame of a payload, made without the program.
func framed(payload string) string {
	out := binary.LittleEndian.AppendUint32(nil, uint32(len(payload)))
	out = append(out, payload...)
	return string(binary.LittleEndian.AppendUint32(out, crc32.ChecksumIEEE(out)))
}

// head is the document's H(epoch, snapshot).
func head(epoch uint64, snapshot string) string {
	return framed("H" + string(binary.AppendUvarint(nil, epoch)) + snapshot)
}

// rec is the document's R(record), for each of the records.
func rec(records ...string) string {
	out := ""
	for _, r := range records {
		out += framed("R" + r)
	}
	return out
}

// is holds an answer against the one that the document asks for.
func is(t *testing.T, what string, got, want api.Errno) {
	t.Helper()
	if got != want {
		t.Fatalf("%s = %d, want %d", what, got, want)
	}
}

// same holds what was told against what the document asks for.
func same(t *testing.T, what, got, want string) {
	t.Helper()
	if got != want {
		t.Fatalf("%s: %s, want %s", what, short(got), short(want))
	}
}

// short is a text without its midst, if it is long.
func short(text string) string {
	if len(text) > 2000 {
		return text[:1000] + " .. " + text[len(text)-1000:]
	}
	return text
}

// foundText is what Open found.
func foundText(epoch uint64, snapshot string, records []string, cut int) string {
	return fmt.Sprintf("epoch %d, snapshot %q, records %q, cut %d", epoch, snapshot, records, cut)
}

// blankText is what an Open answers that found nothing for this reason.
func blankText(why api.Errno) string {
	return "no journal, " + foundText(0, "", nil, 0) + fmt.Sprintf(", %d", why)
}

// heldText is what an Open answers that held.
func heldText(epoch uint64, snapshot string, cut int, records ...string) string {
	return fmt.Sprintf("journal at %d/%d, ", epoch, len(records)) + foundText(epoch, snapshot, records, cut) + ", 0"
}

// openText is what an Open answered.
func openText(j *journal.Journal, f api.Recovered, e api.Errno) string {
	var records []string
	for _, r := range f.Records {
		records = append(records, string(r))
	}
	at := "no journal, "
	if j != nil {
		at = fmt.Sprintf("journal at %d/%d, ", j.Epoch(), j.Count())
	}
	return at + foundText(uint64(f.Epoch), string(f.Snapshot), records, f.Cut) + fmt.Sprintf(", %d", e)
}

// opened opens a journal that must hold.
func opened(t *testing.T, d *disk.Disk) *journal.Journal {
	t.Helper()
	j, _, e := journal.Open(d)
	is(t, "Open", e, api.OK)
	return j
}

// formatted is a disk on which a journal was begun.
func formatted(t *testing.T, snapshot string) *disk.Disk {
	t.Helper()
	d := disk.New()
	is(t, "Format", journal.Format(d, []byte(snapshot)), api.OK)
	return d
}

// loaded is a disk that holds these bytes.
func loaded(first, second string) *disk.Disk { return disk.Load([]byte(first), []byte(second)) }

// durables are the durable bytes of both files.
func durables(d *disk.Disk) [2]string {
	first, _ := d.Durable(0)
	second, _ := d.Durable(1)
	return [2]string{string(first), string(second)}
}

// holds asks for the durable bytes of both files.
func holds(t *testing.T, what string, d *disk.Disk, first, second string) {
	t.Helper()
	if got := durables(d); got != [2]string{first, second} {
		t.Fatalf("%s: the files hold %s, want %s", what, short(fmt.Sprintf("%q", got)), short(fmt.Sprintf("%q", []string{first, second})))
	}
}

// story is a disk and the journal that was opened on it last.
type story struct {
	d *disk.Disk
	j *journal.Journal
}

func (s *story) open() string {
	j, f, e := journal.Open(s.d)
	s.j = j
	return openText(j, f, e)
}

func (s *story) append(record string) string {
	return fmt.Sprint(s.j.Append([]byte(record)))
}

func (s *story) compact(snapshot string) string {
	return fmt.Sprint(s.j.Compact([]byte(snapshot)))
}

func (s *story) arm(after, keep int) string { return fmt.Sprint(s.d.Arm(after, keep)) }

func (s *story) stands() string { return fmt.Sprintf("%d/%d", s.j.Epoch(), s.j.Count()) }

// The chapter's table, row by row: the answers, how many writes there were, and what is durable behind them.
func TestExamples(t *testing.T) {
	s := &story{d: disk.New()}
	torn := rec("b")[:3]
	rows := []struct {
		call          string
		do            func() []string
		want          string
		writes        int
		first, second string
	}{
		{"Open", func() []string { return []string{s.open()} }, blankText(api.ErrBlank), 0, "", ""},
		{`Format("s")`, func() []string { return []string{fmt.Sprint(journal.Format(s.d, []byte("s")))} }, "0", 2, head(1, "s"), ""},
		{"Open", func() []string { return []string{s.open()} }, heldText(1, "s", 0), 0, head(1, "s"), ""},
		{`Append("a")`, func() []string { return []string{s.append("a")} }, "0", 2, head(1, "s") + rec("a"), ""},
		{`Arm(2, 3), Append("b")`, func() []string { return []string{s.arm(2, 3), s.append("b")} }, "0 51", 2, head(1, "s") + rec("a") + torn, ""},
		{`Append("c")`, func() []string { return []string{s.append("c")} }, "51", 0, head(1, "s") + rec("a") + torn, ""},
		{"Restart, Open", func() []string { return []string{fmt.Sprint(s.d.Restart()), s.open()} }, "0 " + heldText(1, "s", 3, "a"), 1, head(1, "s") + rec("a"), ""},
		{`Append("b")`, func() []string { return []string{s.append("b")} }, "0", 2, head(1, "s") + rec("a", "b"), ""},
		{`Compact("t")`, func() []string { return []string{s.compact("t")} }, "0", 2, head(1, "s") + rec("a", "b"), head(2, "t")},
		{`Append("d")`, func() []string { return []string{s.append("d"), s.stands()} }, "0 2/1", 2, head(1, "s") + rec("a", "b"), head(2, "t") + rec("d")},
		{"Open", func() []string { return []string{s.open()} }, heldText(2, "t", 0, "d"), 1, "", head(2, "t") + rec("d")},
		{`Arm(2, 1000), Compact("u")`, func() []string { return []string{s.arm(2, 1000), s.compact("u")} }, "0 51", 2, head(3, "u"), head(2, "t") + rec("d")},
		{"Restart, Open", func() []string { return []string{fmt.Sprint(s.d.Restart()), s.open()} }, "0 " + heldText(3, "u", 0), 1, head(3, "u"), ""},
		{"Open", func() []string { return []string{s.open()} }, heldText(3, "u", 0), 0, head(3, "u"), ""},
	}
	for i, row := range rows {
		what := fmt.Sprintf("row %d, %s", i+1, row.call)
		before := s.d.Writes()
		same(t, what, strings.Join(row.do(), " "), row.want)
		if got := s.d.Writes() - before; got != row.writes {
			t.Fatalf("%s: %d writes, want %d", what, got, row.writes)
		}
		holds(t, what, s.d, row.first, row.second)
	}
}

// The chapter's bytes of a header and of a record.
func TestExampleBytes(t *testing.T) {
	d := formatted(t, "s")
	header := durables(d)[0]
	same(t, "H(1, s)", fmt.Sprintf("% x", header[:len(header)-4]), "03 00 00 00 48 01 73")
	is(t, "Append", opened(t, d).Append([]byte("a")), api.OK)
	record := strings.TrimPrefix(durables(d)[0], header)
	same(t, "R(a)", fmt.Sprintf("% x", record[:len(record)-4]), "02 00 00 00 52 61")
	holds(t, "7.3, 7.5: their sums too", d, head(1, "s")+rec("a"), "")
}
