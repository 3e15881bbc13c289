package journal_test

import (
	"fmt"
	"math"
	"strings"
	"testing"

	"arrears/api"
	"arrears/disk"
	"arrears/journal"
)

// stands asks where a journal is, and how many writes its disk has counted.
func stands(t *testing.T, what string, j *journal.Journal, d *disk.Disk, epoch uint64, count, writes int) {
	t.Helper()
	if uint64(j.Epoch()) != epoch || j.Count() != count || d.Writes() != writes {
		t.Fatalf("%s: epoch %d, count %d, %d writes, want %d, %d, %d", what, j.Epoch(), j.Count(), d.Writes(), epoch, count, writes)
	}
}

// 7.3: Format makes an empty journal, whatever the disk holds, and cuts only what has bytes.
func TestFormat(t *testing.T) {
	old := []string{"", "x", "junk", head(1, "s"), head(9, "old") + rec("a"), head(math.MaxInt64, "old"), strings.Repeat("\x00", 1000)}
	for _, first := range old {
		for _, second := range old {
			for _, snapshot := range []string{"", "s", "new"} {
				d := loaded(first, second)
				is(t, "7.3: Format", journal.Format(d, []byte(snapshot)), api.OK)
				holds(t, "7.3: Format", d, head(1, snapshot), "")
				writes := 2
				if first != "" {
					writes++
				}
				if second != "" {
					writes++
				}
				if d.Writes() != writes {
					t.Fatalf("7.3: Format over %q and %q makes %d writes, want %d", first, second, d.Writes(), writes)
				}
				same(t, "7.4: Open behind Format", openText(journal.Open(d)), heldText(1, snapshot, 0))
			}
		}
	}
}

// 7.3: Format of a disk with pending bytes cuts them too.
func TestFormatPending(t *testing.T) {
	d := disk.New()
	is(t, "Append", d.Append(0, []byte("p")), api.OK)
	is(t, "Append", d.Append(1, []byte("q")), api.OK)
	is(t, "7.3: Format", journal.Format(d, nil), api.OK)
	holds(t, "7.3: Format", d, head(1, ""), "")
	if d.Writes() != 2+4 {
		t.Errorf("7.3: Format makes %d writes, want 4", d.Writes()-2)
	}
}

// 7.3: the longest snapshot, and one byte more: refused ahead of all else, be the disk up or down.
func TestFormatLong(t *testing.T) {
	longest := strings.Repeat("l", api.MaxPayload-2)
	d := loaded(head(9, "old"), "junk")
	for _, more := range []string{"x", "xy", longest} {
		is(t, "7.3: Format of too much", journal.Format(d, []byte(longest+more)), api.ErrLong)
	}
	holds(t, "7.3: Format of too much", d, head(9, "old"), "junk")
	if d.Writes() != 0 {
		t.Errorf("7.3: Format of too much makes %d writes", d.Writes())
	}
	is(t, "7.3: Format of the longest", journal.Format(d, []byte(longest)), api.OK)
	holds(t, "7.3: Format of the longest", d, head(1, longest), "")
	same(t, "7.4: the longest", openText(journal.Open(d)), heldText(1, longest, 0))
	down := downDisk(t)
	is(t, "7.3: Format of too much on a disk that is down", journal.Format(down, []byte(longest+"x")), api.ErrLong)
	is(t, "7.3: Format on a disk that is down", journal.Format(down, []byte(longest)), api.ErrDown)
	holds(t, "7.3: Format on a disk that is down", down, head(1, "s"), "")
}

// downDisk is a disk with a journal that has gone down.
func downDisk(t *testing.T) *disk.Disk {
	t.Helper()
	d := formatted(t, "s")
	is(t, "Arm", d.Arm(1, 0), api.OK)
	is(t, "Append", opened(t, d).Append([]byte("lost")), api.ErrDown)
	return d
}

// 7.2, 7.4: Open of a disk that is down writes nothing and finds nothing.
func TestOpenDown(t *testing.T) {
	d := downDisk(t)
	writes := d.Writes()
	for range 3 {
		same(t, "7.4: Open of a disk that is down", openText(journal.Open(d)), blankText(api.ErrDown))
	}
	if d.Writes() != writes {
		t.Errorf("7.4: Open of a disk that is down makes %d writes", d.Writes()-writes)
	}
	is(t, "Restart", d.Restart(), api.OK)
	same(t, "7.4: Open behind Restart", openText(journal.Open(d)), heldText(1, "s", 0))
}

// 7.5, 7.8: records of any bytes, one behind the other, each two writes.
func TestAppend(t *testing.T) {
	d := formatted(t, "")
	j := opened(t, d)
	records := []string{"", "a", "", "R", "H\x01", rec("in it"), strings.Repeat("long", 5000), ""}
	for i, r := range records {
		stands(t, "7.8: ahead of Append", j, d, 1, i, 2+2*i)
		is(t, "7.5: Append", j.Append([]byte(r)), api.OK)
		stands(t, "7.8: behind Append", j, d, 1, i+1, 4+2*i)
		holds(t, "7.5: Append", d, head(1, "")+rec(records[:i+1]...), "")
	}
	is(t, "7.5: Append of nil", j.Append(nil), api.OK)
	same(t, "7.4", openText(journal.Open(d)), heldText(1, "", 0, append(records, "")...))
}

// 7.5: the longest record, and one byte more: nothing has changed, and the journal goes on.
func TestAppendLong(t *testing.T) {
	d := formatted(t, "s")
	j := opened(t, d)
	longest := strings.Repeat("l", api.MaxPayload-1)
	is(t, "7.5: Append of too much", j.Append([]byte(longest+"x")), api.ErrLong)
	is(t, "7.5: Append of far too much", j.Append(make([]byte, api.MaxFile)), api.ErrLong)
	stands(t, "7.5: Append of too much", j, d, 1, 0, 2)
	holds(t, "7.5: Append of too much", d, head(1, "s"), "")
	is(t, "7.5: Append of the longest", j.Append([]byte(longest)), api.OK)
	stands(t, "7.5: Append of the longest", j, d, 1, 1, 4)
	is(t, "7.5: Append behind it", j.Append([]byte("a")), api.OK)
	same(t, "7.4: the longest", openText(journal.Open(d)), heldText(1, "s", 0, longest, "a"))
}

// 7.5: a record that fills the file to the byte, and one byte more: the disk's ErrFull, behind which the journal goes on.
func TestAppendFull(t *testing.T) {
	big := strings.Repeat("b", api.MaxPayload-1)
	file := head(3, "s") + rec(big, big, big)
	room := api.MaxFile - len(file)
	for at := range 2 {
		given := [2]string{}
		given[at] = file
		d := loaded(given[0], given[1])
		j := opened(t, d)
		is(t, "Arm", d.Arm(1, 0), api.OK)
		is(t, "7.5: Append of a byte too many", j.Append(make([]byte, room-9+1)), api.ErrFull)
		is(t, "7.5: Append of much too many", j.Append([]byte(big)), api.ErrFull)
		d.Disarm()
		stands(t, "7.5: ErrFull", j, d, 3, 3, 0)
		holds(t, "7.5: ErrFull", d, given[0], given[1])
		last := strings.Repeat("f", room-9-9)
		is(t, "7.5: Append behind ErrFull", j.Append([]byte(last)), api.OK)
		is(t, "7.5: Append of a byte too many", j.Append([]byte("x")), api.ErrFull)
		is(t, "7.5: Append to the byte", j.Append(nil), api.OK)
		is(t, "7.5: Append to a full file", j.Append(nil), api.ErrFull)
		stands(t, "7.5: a full file", j, d, 3, 5, 4)
		same(t, "7.4: a full file", openText(journal.Open(d)), heldText(3, "s", 0, big, big, big, last, ""))
		j = opened(t, d)
		is(t, "7.5: Append to a full file", j.Append(nil), api.ErrFull)
		is(t, "7.6: Compact of a full file", j.Compact([]byte("t")), api.OK)
		is(t, "7.5: Append behind Compact", j.Append([]byte("a")), api.OK)
		same(t, "7.6: Compact of a full file", openText(journal.Open(d)), heldText(4, "t", 0, "a"))
	}
}

// 7.6, 7.8: epochs one behind the other, in the files in turns; the file that was the journal's stays until the next Compact cuts it.
func TestCompact(t *testing.T) {
	d := formatted(t, "s0")
	j := opened(t, d)
	mine, beside, writes := head(1, "s0"), "", d.Writes()
	for i := range 300 {
		epoch := uint64(i + 2)
		is(t, "7.5: Append", j.Append([]byte("r")), api.OK)
		mine += rec("r")
		snapshot := strings.Repeat("s", i%3)
		is(t, "7.6: Compact", j.Compact([]byte(snapshot)), api.OK)
		mine, beside, writes = head(epoch, snapshot), mine, writes+4
		if i > 0 {
			writes++ // the cut: from the second Compact on, the other file has bytes
		}
		stands(t, "7.6: Compact", j, d, epoch, 0, writes)
		if i%2 == 0 {
			holds(t, "7.6: Compact", d, beside, mine)
		} else {
			holds(t, "7.6: Compact", d, mine, beside)
		}
		// A copy of the disk as it is now.
		both := durables(d)
		same(t, "7.6: found again", openText(journal.Open(loaded(both[0], both[1]))), heldText(epoch, snapshot, 0))
	}
}

// 7.6: the longest snapshot hangs on the next epoch's bytes; one byte more is refused, nothing has changed, and the journal goes on.
func TestCompactLong(t *testing.T) {
	for _, row := range []struct {
		epoch uint64
		bytes int // of the next epoch
	}{{1, 1}, {126, 1}, {127, 2}, {16382, 2}, {16383, 3}, {1<<56 - 2, 8}, {1<<56 - 1, 9}, {math.MaxInt64 - 1, 9}} {
		what := fmt.Sprintf("7.6: Compact behind epoch %d", row.epoch)
		d := loaded(head(row.epoch, "s"), "")
		j := opened(t, d)
		longest := strings.Repeat("l", api.MaxPayload-1-row.bytes)
		is(t, what, j.Compact([]byte(longest+"x")), api.ErrLong)
		stands(t, what, j, d, row.epoch, 0, 0)
		holds(t, what, d, head(row.epoch, "s"), "")
		is(t, what, j.Append([]byte("a")), api.OK)
		is(t, what, j.Compact([]byte(longest)), api.OK)
		stands(t, what, j, d, row.epoch+1, 0, 4)
		same(t, what, openText(journal.Open(d)), heldText(row.epoch+1, longest, 0))
	}
}

// 7.6: behind the last epoch there is none; that is said ahead of what is wrong with the snapshot, and the journal goes on.
func TestCompactLastEpoch(t *testing.T) {
	for at := range 2 {
		given := [2]string{}
		given[at] = head(math.MaxInt64-1, "s")
		d := loaded(given[0], given[1])
		j := opened(t, d)
		is(t, "7.6: Compact to the last epoch", j.Compact([]byte("t")), api.OK)
		stands(t, "7.6: Compact to the last epoch", j, d, math.MaxInt64, 0, 2)
		before := durables(d)
		for _, snapshot := range [][]byte{nil, []byte("u"), make([]byte, api.MaxPayload+1)} {
			is(t, "7.6: Compact of the last epoch", j.Compact(snapshot), api.ErrRange)
		}
		stands(t, "7.6: Compact of the last epoch", j, d, math.MaxInt64, 0, 2)
		holds(t, "7.6: Compact of the last epoch", d, before[0], before[1])
		is(t, "7.6: Append behind it", j.Append([]byte("a")), api.OK)
		same(t, "7.6: the last epoch", openText(journal.Open(d)), heldText(math.MaxInt64, "t", 0, "a"))
	}
}

// 7.7: whatever write the disk went down at, the journal is dead, be the disk up again or not; that is said ahead of all else.
func TestDead(t *testing.T) {
	record, snapshot := []byte("record"), []byte("snapshot")
	append1 := func(j *journal.Journal) api.Errno { return j.Append(record) }
	compact := func(j *journal.Journal) api.Errno { return j.Compact(snapshot) }
	for _, row := range []struct {
		name   string
		call   func(*journal.Journal) api.Errno
		writes int
	}{{"Append", append1, 2}, {"Compact", compact, 3}} {
		for at := 1; at <= row.writes; at++ {
			for _, epoch := range []uint64{1, 2, math.MaxInt64 - 1} {
				what := fmt.Sprintf("7.7: epoch %d, %s dies at write %d", epoch, row.name, at)
				d := loaded(head(epoch-1, "old")+"torn", head(epoch, "s")+rec("a"))
				j := opened(t, d)
				is(t, what, j.Append([]byte("b")), api.OK)
				// So that the other file has bytes.
				is(t, what, j.Compact([]byte("t")), api.OK)
				is(t, what, j.Append([]byte("c")), api.OK)
				dies(t, what, j, d, row.call, at)
			}
		}
	}
}

// dies lets a call die at a write, and asks that the journal stays dead.
func dies(t *testing.T, what string, j *journal.Journal, d *disk.Disk, call func(*journal.Journal) api.Errno, at int) {
	t.Helper()
	epoch, count, writes := uint64(j.Epoch()), j.Count(), d.Writes()+at
	is(t, "Arm", d.Arm(at, 1), api.OK)
	if e := call(j); e == api.ErrRange {
		// The last epoch has no next one: there is nothing to die at.
		d.Disarm()
		stands(t, what, j, d, epoch, count, writes-at)
		return
	} else if e != api.ErrDown {
		t.Fatalf("%s: %d, want ErrDown", what, e)
	}
	for range 2 {
		before := durables(d)
		for _, data := range [][]byte{nil, []byte("x"), make([]byte, api.MaxPayload+1)} {
			is(t, what+", then Append", j.Append(data), api.ErrDown)
			is(t, what+", then Compact", j.Compact(data), api.ErrDown)
		}
		stands(t, what, j, d, epoch, count, writes)
		holds(t, what, d, before[0], before[1])
		d.Restart()
	}
	if d.Down() {
		t.Fatalf("%s: the disk is down", what)
	}
	next := opened(t, d)
	is(t, what+", opened anew", next.Append([]byte("d")), api.OK)
}

// 7.7: a refusal that is none of the disk's, or is ErrFull, does not kill.
func TestRefusedIsNotDead(t *testing.T) {
	d := loaded(head(math.MaxInt64, "s"), "")
	j := opened(t, d)
	is(t, "Append", j.Append(make([]byte, api.MaxPayload)), api.ErrLong)
	is(t, "Compact", j.Compact(nil), api.ErrRange)
	for i := range 10 {
		is(t, "7.7: Append", j.Append([]byte("a")), api.OK)
		is(t, "7.7: Compact", j.Compact(make([]byte, api.MaxPayload)), api.ErrRange)
		stands(t, "7.7", j, d, math.MaxInt64, i+1, 2*i+2)
	}
}

// 7.1, 7.8: two journals on two disks do not know of one another.
func TestTwoJournals(t *testing.T) {
	d1, d2 := formatted(t, "one"), formatted(t, "two")
	j1, j2 := opened(t, d1), opened(t, d2)
	is(t, "Append", j1.Append([]byte("a")), api.OK)
	is(t, "Compact", j2.Compact([]byte("b")), api.OK)
	is(t, "Arm", d1.Arm(1, 0), api.OK)
	is(t, "Append", j1.Append([]byte("c")), api.ErrDown)
	is(t, "Append", j2.Append([]byte("d")), api.OK)
	stands(t, "7.8", j1, d1, 1, 1, 5)
	stands(t, "7.8", j2, d2, 2, 1, 6)
	same(t, "7.4", openText(journal.Open(d2)), heldText(2, "b", 0, "d"))
}
