package journal_test

import (
	"fmt"
	"math"
	"strings"
	"testing"

	"arrears/api"
	"arrears/disk"
	"arrears/journal"
)

// opens opens a disk that holds these bytes, and asks for the answer, the writes and the bytes behind it.
func opens(t *testing.T, what, first, second, want string, writes int, left [2]string) {
	t.Helper()
	d := loaded(first, second)
	same(t, what, openText(journal.Open(d)), want)
	holds(t, what, d, left[0], left[1])
	if d.Writes() != writes {
		t.Fatalf("%s: %d writes, want %d", what, d.Writes(), writes)
	}
}

// blank asks that a disk is refused as it is, and nothing of it changed.
func blank(t *testing.T, what, first, second string) {
	t.Helper()
	opens(t, what, first, second, blankText(api.ErrBlank), 0, [2]string{first, second})
}

// 7.4: files of which none is headed.
func TestOpenBlank(t *testing.T) {
	same(t, "7.4: Open of a new disk", openText(journal.Open(disk.New())), blankText(api.ErrBlank))
	whole := head(1, "s") + rec("a")
	spoilt := "\x03\x00\x00\x00H\x01t" + whole[7:]
	for _, file := range []string{
		"", "j", "junk", strings.Repeat("\x00", 100), framed(""), framed("H"), framed("h\x01s"), framed("R\x01s"), framed("\x01s"),
		rec("a"), rec("a") + whole, "x" + whole, framed("") + whole, whole[1:], spoilt, head(1, "s")[:10], head(1, "")[:9],
		"\xff\xff\xff\xff" + whole, "\x01\x00\x40\x00" + strings.Repeat("H\x01", 50),
	} {
		for _, beside := range []string{"", "junk", file} {
			blank(t, fmt.Sprintf("7.4: %q and %q", file, beside), file, beside)
			blank(t, fmt.Sprintf("7.4: %q and %q", beside, file), beside, file)
		}
	}
}

// 7.4: which numbers are epochs.
func TestOpenEpochs(t *testing.T) {
	for _, payload := range []string{
		"H\x00s",        // 0
		"H\x80\x00s",    // 0 and 1, each in two bytes
		"H\x81\x00s",    //
		"H\x80",         // cut off
		"H\xff\xff\xff", //
		"H\x80\x80\x80\x80\x80\x80\x80\x80\x80\x01s",         // 2^63
		"H\xff\xff\xff\xff\xff\xff\xff\xff\xff\x01s",         // 2^64 - 1
		"H\x80\x80\x80\x80\x80\x80\x80\x80\x80\x02s",         // 2^64
		"H\xff\xff\xff\xff\xff\xff\xff\xff\xff\x00s",         // 2^63 - 1 in ten bytes
		"H\x81\x80\x80\x80\x80\x80\x80\x80\x80\x80\x00s",     // eleven bytes
		"H\x81\x80\x80\x80\x80\x80\x80\x80\x80\x80\x80\x01s", // twelve
	} {
		file := framed(payload) + rec("a")
		blank(t, fmt.Sprintf("7.4: %q", payload), file, "")
		blank(t, fmt.Sprintf("7.4: %q", payload), "", file)
		good := head(1, "g") + rec("b")
		opens(t, fmt.Sprintf("7.4: %q beside a headed file", payload), file, good, heldText(1, "g", 0, "b"), 1, [2]string{"", good})
		opens(t, fmt.Sprintf("7.4: %q beside a headed file", payload), good, file, heldText(1, "g", 0, "b"), 1, [2]string{good, ""})
	}
	for _, epoch := range []uint64{1, 2, 127, 128, 300, 16383, 16384, 1 << 31, 1 << 32, 1<<56 - 1, 1 << 56, math.MaxInt64 - 1, math.MaxInt64} {
		file := head(epoch, "s") + rec("a")
		what := fmt.Sprintf("7.4: epoch %d", epoch)
		opens(t, what, file, "", heldText(epoch, "s", 0, "a"), 0, [2]string{file, ""})
		opens(t, what, "", file, heldText(epoch, "s", 0, "a"), 0, [2]string{"", file})
	}
}

// 7.4: of two headed files the greater epoch is the journal's, of two with the same file 0; the other one is emptied.
func TestOpenTwoHeaded(t *testing.T) {
	epochs := []uint64{1, 2, 3, 127, 128, 129, 1 << 32, 1<<32 + 1, 1 << 62, math.MaxInt64 - 1, math.MaxInt64}
	for _, a := range epochs {
		for _, b := range epochs {
			first, second := head(a, "first")+rec("1"), head(b, "second")+rec("2", "2")
			want, left := heldText(a, "first", 0, "1"), [2]string{first, ""}
			if b > a {
				want, left = heldText(b, "second", 0, "2", "2"), [2]string{"", second}
			}
			opens(t, fmt.Sprintf("7.4: epochs %d and %d", a, b), first, second, want, 1, left)
		}
	}
}

// 7.4: what lies in the other file does not matter, and is cut away.
func TestOpenOther(t *testing.T) {
	mine := head(5, "s") + rec("a", "b")
	for _, beside := range []string{"x", "junk", rec("a"), head(4, "t"), head(4, "t") + rec("c"), head(4, "t") + "torn", head(6, "t")[:9], head(0, ""), framed("H\x86\x00")} {
		opens(t, fmt.Sprintf("7.4: beside %q", beside), mine, beside, heldText(5, "s", 0, "a", "b"), 1, [2]string{mine, ""})
		opens(t, fmt.Sprintf("7.4: beside %q", beside), beside, mine, heldText(5, "s", 0, "a", "b"), 1, [2]string{"", mine})
		opens(t, fmt.Sprintf("7.4: torn, beside %q", beside), mine+"torn", beside, heldText(5, "s", 4, "a", "b"), 2, [2]string{mine, ""})
	}
}

// 7.4: snapshots and records are any bytes, none too.
func TestOpenAnyBytes(t *testing.T) {
	all := make([]byte, 256)
	for i := range all {
		all[i] = byte(i)
	}
	texts := []string{"", "H", "R", "\x00", "\xff\xff", string(all), head(9, "in it"), rec("in it"), strings.Repeat("long", 5000)}
	for _, snapshot := range texts {
		for _, record := range texts {
			file := head(3, snapshot) + rec(record, "", record)
			opens(t, "7.4: any bytes", file, "", heldText(3, snapshot, 0, record, "", record), 0, [2]string{file, ""})
		}
	}
	many := make([]string, 3000)
	for i := range many {
		many[i] = fmt.Sprint(i)
	}
	file := head(3, "") + rec(many...)
	opens(t, "7.4: many records", "", file, heldText(3, "", 0, many...), 0, [2]string{"", file})
}

// 7.4: the good part ends at the first frame that is no record's, and at the first place without a frame; the file is cut there.
func TestOpenGoesOn(t *testing.T) {
	spoilt := []byte(rec("b"))
	spoilt[5] ^= 1
	for _, tail := range []string{
		framed(""), framed("r"), framed("Q"), framed("S"), framed("Hx"), framed("\x00R"), head(2, "t"), head(9, ""),
		"x", "torn", rec("b")[:9], string(spoilt), "\x00\x00\x00\x00\x00\x00\x00\x00", "\xff\xff\xff\xff\x00\x00\x00\x00",
	} {
		for _, behind := range []string{"", rec("c"), rec("c") + head(8, "u") + rec("d")} {
			for _, records := range [][]string{nil, {"a"}, {"", "a", ""}} {
				good := head(7, "s") + rec(records...)
				cut := len(tail) + len(behind)
				want := heldText(7, "s", cut, records...)
				what := fmt.Sprintf("7.4: %q, then %q and %q", records, tail, behind)
				opens(t, what, good+tail+behind, "", want, 1, [2]string{good, ""})
				opens(t, what, "", good+tail+behind, want, 1, [2]string{"", good})
			}
		}
	}
}

// 7.4: a file of MaxFile bytes that goes on behind its good part.
func TestOpenFullFile(t *testing.T) {
	good := head(1, "s") + rec("a")
	opens(t, "7.4: a full file", good+strings.Repeat("\x00", api.MaxFile-len(good)), "",
		heldText(1, "s", api.MaxFile-len(good), "a"), 1, [2]string{good, ""})
}

// 7.11, and the way back of 7.4: a journal's file that is cut off at every place.
func TestTorn(t *testing.T) {
	records := []string{"one", "", "three", rec("in a record"), ""}
	for _, epoch := range []uint64{1, 300, math.MaxInt64} {
		header := head(epoch, "snapshot")
		file := header + rec(records...)
		for at := range len(file) + 1 {
			whole := 0
			for whole < len(records) && len(header)+len(rec(records[:whole+1]...)) <= at {
				whole++
			}
			good := header + rec(records[:whole]...)
			what := fmt.Sprintf("7.11: epoch %d, cut at %d", epoch, at)
			if at < len(header) {
				blank(t, what, file[:at], "")
				blank(t, what, "", file[:at])
				continue
			}
			writes := 1
			if at == len(good) {
				writes = 0
			}
			want := heldText(epoch, "snapshot", at-len(good), records[:whole]...)
			opens(t, what, file[:at], "", want, writes, [2]string{good, ""})
			opens(t, what, "", file[:at], want, writes, [2]string{"", good})
		}
	}
}

// 7.11: the program's own file, as it grew by Append, cut off at every place.
func TestTornOwn(t *testing.T) {
	d := formatted(t, "s")
	j := opened(t, d)
	ends := []int{len(durables(d)[0])}
	records := []string{"a", "", "ccc"}
	for _, r := range records {
		is(t, "Append", j.Append([]byte(r)), api.OK)
		ends = append(ends, len(durables(d)[0]))
	}
	file := durables(d)[0]
	for at := range len(file) + 1 {
		want := blankText(api.ErrBlank)
		for whole, end := range ends {
			if end <= at {
				want = heldText(1, "s", at-end, records[:whole]...)
			}
		}
		same(t, fmt.Sprintf("7.11: cut at %d", at), openText(journal.Open(loaded(file[:at], ""))), want)
	}
}

// 7.4, 7.8: what was opened goes on where it stood, be it in file 0 or in file 1.
func TestOpenGoesOnWriting(t *testing.T) {
	file := head(4, "s") + rec("a")
	for at := range 2 {
		given := [2]string{}
		given[at], given[1-at] = file+"torn", "old"
		d := loaded(given[0], given[1])
		j := opened(t, d)
		is(t, "7.5: Append", j.Append([]byte("b")), api.OK)
		want := [2]string{}
		want[at] = file + rec("b")
		holds(t, "7.5: Append behind Open", d, want[0], want[1])
		is(t, "7.6: Compact", j.Compact([]byte("t")), api.OK)
		want[1-at] = head(5, "t")
		holds(t, "7.6: Compact behind Open", d, want[0], want[1])
		if j.Epoch() != 5 || j.Count() != 0 {
			t.Errorf("7.8: %d/%d, want 5/0", j.Epoch(), j.Count())
		}
	}
}
