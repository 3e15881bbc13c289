package journal_test

import (
	"fmt"
	"math/rand/v2"
	"slices"
	"testing"

	"arrears/api"
	"arrears/disk"
	"arrears/journal"
)

// 7.2: a disk that goes down at every write of every call, with every number of pending bytes kept: the bytes that are left tell which writes were made, and in which order.
func TestEveryWrite(t *testing.T) {
	disks := [][2]string{
		{head(1, "s"), ""},
		{"", head(1, "s") + rec("a")},
		{head(1, "s") + rec("a"), "junk"},
		{head(1, "s") + rec("a") + "torn", head(2, "t") + rec("b") + "torn"},
		{head(300, "s") + rec("a", "") + "torn", head(299, "t")},
	}
	calls := []step{{call: "format", data: "new"}, {call: "open"}, {call: "append", data: "record"}, {call: "append"}, {call: "compact", data: "snap"}, {call: "compact"}}
	for _, given := range disks {
		for _, call := range calls {
			for after := 1; after <= 5; after++ {
				for keep := range 20 {
					var steps []step
					if call.call == "append" || call.call == "compact" {
						// A Compact ahead of it, so that the other file has bytes.
						steps = []step{{call: "open"}, {call: "compact", data: "c"}, {call: "append", data: "d"}}
					}
					arm := step{call: "arm", after: after, keep: keep}
					again := step{call: "open"}
					play(t, pairOf(given[0], given[1]), append(steps, arm, call, call, step{call: "restart"}, again, again))
				}
			}
		}
	}
}

// 7.2: a disk that goes down at two writes, one behind the other, in whatever calls they come.
func TestEveryTwoWrites(t *testing.T) {
	open, restart := step{call: "open"}, step{call: "restart"}
	for first := 1; first <= 4; first++ {
		for second := 1; second <= 4; second++ {
			for _, keep := range []int{0, 5, 100} {
				steps := []step{
					{call: "arm", after: first, keep: keep}, {call: "arm", after: second, keep: keep},
					{call: "append", data: "x"}, restart, open,
					{call: "compact", data: "y"}, restart, open, restart, open,
					{call: "append", data: "z"}, restart, open, open,
				}
				play(t, pairOf(head(7, "s")+rec("a"), head(8, "t")+"torn"), append([]step{open}, steps...))
			}
		}
	}
}

// known is what a journal holds: an epoch, its snapshot and its records.
type known struct {
	epoch    int
	snapshot string
	records  []string
}

func (k known) text() string { return fmt.Sprintf("%d %q %q", k.epoch, k.snapshot, k.records) }

func knownOf(f api.Recovered) known {
	k := known{epoch: f.Epoch, snapshot: string(f.Snapshot)}
	for _, r := range f.Records {
		k.records = append(k.records, string(r))
	}
	return k
}

// keeper uses a journal as 7.9 tells it: sure is what was answered OK, maybe what may be there in its place.
type keeper struct {
	t     *testing.T
	what  string
	d     *disk.Disk
	j     *journal.Journal
	sure  known
	maybe *known
}

// with is what is known with a record more.
func (k known) with(record string) known {
	return known{k.epoch, k.snapshot, append(slices.Clone(k.records), record)}
}

func (k *keeper) append(record string) {
	k.answered(k.j.Append([]byte(record)), k.sure.with(record))
}

func (k *keeper) compact(snapshot string) {
	k.answered(k.j.Compact([]byte(snapshot)), known{epoch: k.sure.epoch + 1, snapshot: snapshot})
}

// answered takes down what a call was answered: OK makes its work sure, the first ErrDown makes it possible.
func (k *keeper) answered(e api.Errno, done known) {
	k.t.Helper()
	switch {
	case e == api.OK && k.maybe == nil:
		k.sure = done
	case e == api.ErrDown && k.maybe == nil:
		k.maybe = &done
	case e != api.ErrDown:
		k.t.Fatalf("%s: a call is answered %d", k.what, e)
	}
}

// open opens until it holds, with the disk going down under it as often as it is armed to, and asks for what was found; then once more.
func (k *keeper) open() {
	k.t.Helper()
	j, f, e := journal.Open(k.d)
	for e == api.ErrDown {
		if j != nil || openText(j, f, e) != blankText(api.ErrDown) {
			k.t.Fatalf("%s: Open answers %s", k.what, openText(j, f, e))
		}
		k.d.Restart()
		j, f, e = journal.Open(k.d)
	}
	is(k.t, k.what+": Open", e, api.OK)
	got := knownOf(f)
	if got.text() != k.sure.text() && (k.maybe == nil || got.text() != k.maybe.text()) {
		k.t.Fatalf("7.9: %s: found %s, want %s, or %v", k.what, got.text(), k.sure.text(), k.maybe)
	}
	k.j, k.sure, k.maybe = j, got, nil
	k.openAgain()
}

// openAgain is 7.10: the same is found, and nothing is written.
func (k *keeper) openAgain() {
	k.t.Helper()
	writes, before := k.d.Writes(), durables(k.d)
	j, f, e := journal.Open(k.d)
	same(k.t, "7.10: "+k.what, openText(j, f, e), heldText(uint64(k.sure.epoch), k.sure.snapshot, 0, k.sure.records...))
	if k.d.Writes() != writes || durables(k.d) != before {
		k.t.Fatalf("7.10: %s: Open again makes %d writes", k.what, k.d.Writes()-writes)
	}
	k.j = j
}

// newKeeper begins with a Format that was answered OK.
func newKeeper(t *testing.T, what string, d *disk.Disk) *keeper {
	t.Helper()
	is(t, what+": Format", journal.Format(d, []byte("s")), api.OK)
	k := &keeper{t: t, what: what, d: d, sure: known{epoch: 1, snapshot: "s"}}
	k.open()
	return k
}

// tale is all calls, with those in between that find what the disk kept.
func (k *keeper) tale() {
	k.append("one")
	k.append("")
	k.compact("t")
	k.append("two")
	k.open()
	k.append("three")
	k.compact("")
	k.compact("u")
	k.append("four")
	k.append("five")
	k.open()
	k.append("six")
	k.open()
}

// taleWrites is how many writes the tale makes if nothing goes down.
func taleWrites(t *testing.T) int {
	d := disk.New()
	k := newKeeper(t, "counting", d)
	before := d.Writes()
	k.tale()
	return d.Writes() - before
}

// 7.9, 7.10: the disk goes down at every write of the tale, with every number of pending bytes kept, and again in the Open behind it.
func TestNothingIsLost(t *testing.T) {
	total := taleWrites(t)
	if total < 18 {
		t.Fatalf("the tale makes %d writes", total)
	}
	for after := 1; after <= total+1; after++ {
		for keep := range 17 {
			for again := range 4 {
				d := loaded("old", head(77, "old"))
				k := newKeeper(t, fmt.Sprintf("down at %d with %d kept, then at %d", after, keep, again), d)
				is(t, "Arm", d.Arm(after, keep), api.OK)
				if again > 0 {
					is(t, "Arm", d.Arm(again, keep), api.OK)
				}
				k.tale()
			}
		}
	}
}

// 7.9, 7.10: many crashes at drawn writes, some of them inside the recoveries.
func TestNothingIsLostDrawn(t *testing.T) {
	random := rand.New(rand.NewPCG(7, 9))
	for number := range 2000 {
		d := disk.New()
		k := newKeeper(t, fmt.Sprintf("drawn %d", number), d)
		for i := range 60 {
			switch random.IntN(8) {
			case 0:
				k.open()
			case 1:
				k.compact(fmt.Sprint("snapshot ", i))
			case 2:
				d.Arm(1+random.IntN(5), random.IntN(40))
			default:
				k.append(fmt.Sprint(i)[:random.IntN(len(fmt.Sprint(i))+1)])
			}
		}
		k.open()
	}
}

// 7.9: what an Open found counts as answered OK: a record or a snapshot of a call that died stays, once it was found.
func TestFoundStays(t *testing.T) {
	for _, call := range []string{"append", "compact"} {
		for after := 1; after <= 2; after++ {
			k := newKeeper(t, "7.9: found stays", disk.New())
			k.append("one")
			is(t, "Arm", k.d.Arm(after, 1000), api.OK)
			if call == "append" {
				k.append("two")
			} else {
				k.compact("two")
			}
			k.open()
			if k.sure.text() != `1 "s" ["one" "two"]` && k.sure.text() != `2 "two" []` {
				t.Fatalf("7.9: all bytes were kept, and found is %s", k.sure.text())
			}
			is(t, "Arm", k.d.Arm(1, 0), api.OK)
			k.append("three")
			k.open()
			k.tale()
		}
	}
}

// 7.10: an Open that has two things to cut goes on where it was cut off, however often.
func TestOpenCutOff(t *testing.T) {
	mine, beside := head(4, "s")+rec("a", "b"), head(3, "r")+rec("q")
	for at := range 2 {
		for _, crashes := range [][]int{{1}, {2}, {1, 1}, {1, 2}, {1, 1, 1, 1, 1, 2}, {2, 1, 1, 1}} {
			given := [2]string{}
			given[at], given[1-at] = mine+rec("c")[:7], beside
			d := loaded(given[0], given[1])
			for _, after := range crashes {
				is(t, "Arm", d.Arm(after, 1), api.OK)
			}
			for range crashes {
				same(t, "7.10: Open that is cut off", openText(journal.Open(d)), blankText(api.ErrDown))
				is(t, "Restart", d.Restart(), api.OK)
			}
			k := &keeper{t: t, what: "cut off", d: d, sure: known{4, "s", []string{"a", "b"}}}
			k.open()
			left := [2]string{}
			left[at] = mine
			holds(t, "7.10: cut off", d, left[0], left[1])
		}
	}
}
