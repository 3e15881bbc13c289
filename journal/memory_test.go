package journal_test

import (
	"bytes"
	"slices"
	"strings"
	"testing"

	"arrears/api"
	"arrears/disk"
	"arrears/journal"
)

// guarded lays bytes into the midst of a longer memory, and hands out that memory too.
func guarded(text string) (inside, all []byte) {
	all = slices.Concat(bytes.Repeat([]byte{0xa5}, 8), []byte(text), bytes.Repeat([]byte{0xa5}, 64))
	return all[8 : 8+len(text)], all
}

// overwrite writes over bytes and their spare room.
func overwrite(b []byte, with byte) {
	b = b[:cap(b)]
	for i := range b {
		b[i] = with
	}
}

// 7.1: bytes that are handed in stay as they are, what lies behind them too, and are not kept.
func TestGivenBytes(t *testing.T) {
	for _, text := range []string{"", "x", "some bytes", strings.Repeat("long", 5000), strings.Repeat("m", api.MaxPayload+1)} {
		d := formatted(t, "s")
		j := opened(t, d)
		for name, call := range map[string]func([]byte) api.Errno{
			"Append":  j.Append,
			"Compact": j.Compact,
			"Format":  func(b []byte) api.Errno { return journal.Format(disk.New(), b) },
		} {
			data, all := guarded(text)
			before := bytes.Clone(all)
			call(data)
			if !bytes.Equal(all, before) {
				t.Errorf("7.1: %s changes what it is handed", name)
			}
		}
	}
}

// 7.1: what was handed in may be written over as soon as the call has answered.
func TestGivenBytesAreNotKept(t *testing.T) {
	d := disk.New()
	handed := func(text string) []byte {
		data, _ := guarded(text)
		return data
	}
	snapshot := handed("first")
	is(t, "Format", journal.Format(d, snapshot), api.OK)
	overwrite(snapshot, '#')
	j := opened(t, d)
	// One memory for all records, as a caller has that fills a buffer anew.
	one := handed("-")
	for _, c := range []byte("abc") {
		one[0] = c
		is(t, "Append", j.Append(one), api.OK)
	}
	overwrite(one, '#')
	holds(t, "7.1: Format, Append", d, head(1, "first")+rec("a", "b", "c"), "")
	snapshot = handed("second")
	is(t, "Compact", j.Compact(snapshot), api.OK)
	overwrite(snapshot, '#')
	is(t, "Append", j.Append([]byte("d")), api.OK)
	same(t, "7.1: Compact", openText(journal.Open(d)), heldText(2, "second", 0, "d"))
}

// 7.1: the snapshot and the records that Open answers are each memory of their own, their spare room too.
func TestFoundApart(t *testing.T) {
	d := loaded(head(1, "snapshot")+rec("one", "", "three", "the fourth record", "")+"torn", "")
	_, first, _ := journal.Open(d)
	_, second, _ := journal.Open(d)
	answers := slices.Concat([][]byte{first.Snapshot, second.Snapshot}, first.Records, second.Records)
	for i, b := range answers {
		overwrite(b, byte(i))
	}
	for i, b := range answers {
		if slices.ContainsFunc(b[:cap(b)], func(c byte) bool { return c != byte(i) }) {
			t.Errorf("7.1: answer %d shares memory with another: % x", i, b)
		}
	}
	same(t, "7.1: found again", openText(journal.Open(d)), heldText(1, "snapshot", 0, "one", "", "three", "the fourth record", ""))
}

// 7.1: two lists of records share no memory.
func TestFoundLists(t *testing.T) {
	d := loaded(head(1, "")+rec("one", "two", "three"), "")
	_, first, _ := journal.Open(d)
	_, second, _ := journal.Open(d)
	grown := append(first.Records, []byte("mine"))
	_ = append(second.Records, []byte("yours"))
	second.Records[0] = nil
	if string(grown[3]) != "mine" || string(first.Records[0]) != "one" {
		t.Errorf("7.1: the lists of two answers share memory: %q", grown)
	}
}

// 7.1: what Open answered does not change with what is called later, and the journal does not hang on it.
func TestFoundStaysAsItWas(t *testing.T) {
	d := loaded(head(1, "s")+rec("one", "two"), "")
	j, f, e := journal.Open(d)
	want := openText(nil, f, e)
	is(t, "Append", j.Append([]byte("three")), api.OK)
	is(t, "Compact", j.Compact([]byte("t")), api.OK)
	is(t, "Append", j.Append([]byte("four")), api.OK)
	is(t, "Compact", j.Compact([]byte("u")), api.OK)
	opened(t, d)
	same(t, "7.1: what was found", openText(nil, f, e), want)

	j, f, _ = journal.Open(d)
	overwrite(f.Snapshot, '#')
	f.Records = append(f.Records, []byte("none"))
	f.Epoch = 99
	is(t, "Append", j.Append([]byte("five")), api.OK)
	stands(t, "7.1: the journal", j, d, 3, 1, d.Writes())
	same(t, "7.1: the disk", openText(journal.Open(d)), heldText(3, "u", 0, "five"))
}

// 7.1, 7.2: what a call answers hangs on its arguments and its disk alone: the same calls on the same bytes answer the same.
func TestSameAgain(t *testing.T) {
	steps := []step{
		{call: "open"}, {call: "append", data: "a"}, {call: "compact", data: "b"}, {call: "arm", after: 2, keep: 4},
		{call: "append", data: "c"}, {call: "restart"}, {call: "open"}, {call: "compact"}, {call: "format", data: "d"}, {call: "open"},
	}
	told := ""
	for range 3 {
		p, all := pairOf(head(5, "s")+rec("r"), "junk"), ""
		for _, s := range steps {
			got, _ := p.do(s)
			all += got + "; " + diskText(p.d) + "\n"
		}
		if told == "" {
			told = all
		}
		same(t, "the same calls", all, told)
	}
}
