package journal_test

import (
	"encoding/binary"
	"fmt"
	"hash/crc32"
	"math"
	"math/rand/v2"
	"strings"
	"testing"

	"arrears/api"
	"arrears/disk"
	"arrears/journal"
)

// write is one of the writes that the chapter names.
type write struct {
	call string
	file int
	data string
	size int
}

func (w write) on(d *disk.Disk) api.Errno {
	switch w.call {
	case "append":
		return d.Append(w.file, []byte(w.data))
	case "sync":
		return d.Sync(w.file)
	}
	return d.Truncate(w.file, w.size)
}

// twin is a disk of its own to which just the writes are made that the chapter names, and where the journal on it stands.
type twin struct {
	d     *disk.Disk
	open  bool
	file  int
	epoch uint64
	count int
	dead  bool
}

// makes makes writes, up to the first that is refused.
func (w *twin) makes(writes []write) api.Errno {
	for _, x := range writes {
		if e := x.on(w.d); e != api.OK {
			return e
		}
	}
	return api.OK
}

func (w *twin) bytes(file int) string {
	b, _ := w.d.Read(file)
	return string(b)
}

// cut is the write that cuts a file to a size, if there is something to cut off.
func (w *twin) cut(file, size int) []write {
	if len(w.bytes(file)) == size {
		return nil
	}
	return []write{{call: "cut", file: file, size: size}}
}

func laid(file int, frame string) []write {
	return []write{{call: "append", file: file, data: frame}, {call: "sync", file: file}}
}

// 7.3
func (w *twin) format(snapshot string) api.Errno {
	w.open = false
	if len(snapshot)+2 > api.MaxPayload {
		return api.ErrLong
	}
	if w.d.Down() {
		return api.ErrDown
	}
	writes := append(w.cut(1, 0), w.cut(0, 0)...)
	return w.makes(append(writes, laid(0, head(1, snapshot))...))
}

// 7.4
func (w *twin) reopen() string {
	w.open = false
	if w.d.Down() {
		return blankText(api.ErrDown)
	}
	first, second := read(w.bytes(0)), read(w.bytes(1))
	if first.epoch == 0 && second.epoch == 0 {
		return blankText(api.ErrBlank)
	}
	mine, file := first, 0
	if second.epoch > first.epoch {
		mine, file = second, 1
	}
	lost := len(w.bytes(file)) - mine.good
	if e := w.makes(append(w.cut(file, mine.good), w.cut(1-file, 0)...)); e != api.OK {
		return blankText(e)
	}
	w.open, w.dead = true, false
	w.file, w.epoch, w.count = file, mine.epoch, len(mine.records)
	return heldText(mine.epoch, mine.snapshot, lost, mine.records...)
}

// 7.5, 7.7
func (w *twin) append(record string) api.Errno {
	if w.dead {
		return api.ErrDown
	}
	if len(record)+1 > api.MaxPayload {
		return api.ErrLong
	}
	e := w.makes(laid(w.file, rec(record)))
	w.dead = e == api.ErrDown
	if e == api.OK {
		w.count++
	}
	return e
}

// 7.6, 7.7
func (w *twin) compact(snapshot string) api.Errno {
	if w.dead {
		return api.ErrDown
	}
	if w.epoch == math.MaxInt64 {
		return api.ErrRange
	}
	header := head(w.epoch+1, snapshot)
	if len(header)-8 > api.MaxPayload {
		return api.ErrLong
	}
	e := w.makes(append(w.cut(1-w.file, 0), laid(1-w.file, header)...))
	w.dead = e == api.ErrDown
	if e == api.OK {
		w.file, w.epoch, w.count = 1-w.file, w.epoch+1, 0
	}
	return e
}

// reading is what a file is by the chapter's words; its epoch is 0 if it is not headed.
type reading struct {
	epoch    uint64
	snapshot string
	records  []string
	good     int
}

// read reads a file without the program.
func read(file string) reading {
	payloads := payloadsOf(file)
	if len(payloads) == 0 || !strings.HasPrefix(payloads[0], "H") {
		return reading{}
	}
	epoch, n := binary.Uvarint([]byte(payloads[0][1:]))
	if n <= 0 || epoch < 1 || epoch > math.MaxInt64 || head(epoch, payloads[0][1+n:]) != framed(payloads[0]) {
		return reading{}
	}
	out := reading{epoch: epoch, snapshot: payloads[0][1+n:], good: len(framed(payloads[0]))}
	for _, p := range payloads[1:] {
		if !strings.HasPrefix(p, "R") {
			break
		}
		out.records = append(out.records, p[1:])
		out.good += len(framed(p))
	}
	return out
}

// payloadsOf is the payloads of a file's frames, up to the first place at which there is none.
func payloadsOf(file string) []string {
	var out []string
	for len(file) >= 8 {
		n := int(binary.LittleEndian.Uint32([]byte(file)))
		if n > api.MaxPayload || n+8 > len(file) {
			break
		}
		if crc32.ChecksumIEEE([]byte(file[:n+4])) != binary.LittleEndian.Uint32([]byte(file[n+4:])) {
			break
		}
		out = append(out, file[4:n+4])
		file = file[n+8:]
	}
	return out
}

// step is a call of the journal or of its disk; an arm has its numbers in after and keep.
type step struct {
	call        string
	data        string
	after, keep int
}

// pair is a journal on its disk, and the twin.
type pair struct {
	d *disk.Disk
	j *journal.Journal
	w *twin
}

func pairOf(first, second string) *pair {
	return &pair{d: loaded(first, second), w: &twin{d: loaded(first, second)}}
}

// do makes the step on both, and tells what both answer.
func (p *pair) do(s step) (got, want string) {
	switch s.call {
	case "format":
		p.j = nil
		return fmt.Sprint(journal.Format(p.d, []byte(s.data))), fmt.Sprint(p.w.format(s.data))
	case "open":
		j, f, e := journal.Open(p.d)
		p.j = j
		return openText(j, f, e), p.w.reopen()
	case "arm":
		return fmt.Sprint(p.d.Arm(s.after, s.keep)), fmt.Sprint(p.w.d.Arm(s.after, s.keep))
	case "restart":
		return fmt.Sprint(p.d.Restart()), fmt.Sprint(p.w.d.Restart())
	}
	if p.j == nil || !p.w.open {
		return fmt.Sprint(p.j != nil), fmt.Sprint(p.w.open)
	}
	if s.call == "append" {
		return fmt.Sprint(p.j.Append([]byte(s.data))), fmt.Sprint(p.w.append(s.data))
	}
	return fmt.Sprint(p.j.Compact([]byte(s.data))), fmt.Sprint(p.w.compact(s.data))
}

// tells is all that can be asked of both; a disk with the journal's numbers.
func (p *pair) tells() (got, want string) {
	if p.j != nil {
		got = fmt.Sprintf("%d/%d ", p.j.Epoch(), p.j.Count())
	}
	if p.w.open {
		want = fmt.Sprintf("%d/%d ", p.w.epoch, p.w.count)
	}
	return got + diskText(p.d), want + diskText(p.w.d)
}

func diskText(d *disk.Disk) string {
	out := fmt.Sprintf("%q %d %v", durables(d), d.Writes(), d.Down())
	for file := range 2 {
		b, e := d.Read(file)
		out += fmt.Sprintf(" %q %d", b, e)
	}
	return out
}

// play holds a journal against the twin behind each step.
func play(t *testing.T, p *pair, steps []step) {
	t.Helper()
	for i, s := range steps {
		if got, want := p.do(s); got != want {
			t.Fatalf("behind %v: %s, want %s", steps[:i+1], short(got), short(want))
		}
		if got, want := p.tells(); got != want {
			t.Fatalf("behind %v: %s, want %s", steps[:i+1], short(got), short(want))
		}
	}
}

// 7.2 to 7.8: all rows of a few steps, on a disk that was formatted: the answers, the bytes and the writes are those of the chapter.
func TestAllShortPlays(t *testing.T) {
	few := []step{
		{call: "format", data: "f"},
		{call: "open"},
		{call: "append", data: "a"},
		{call: "append"},
		{call: "compact", data: "c"},
		{call: "arm", after: 1, keep: 1000},
		{call: "arm", after: 2, keep: 3},
		{call: "restart"},
	}
	const length = 5
	total := 1
	for range length {
		total *= len(few)
	}
	for number := range total {
		steps := []step{{call: "format", data: "s"}, {call: "open"}}
		for n, left := number, length; left > 0; n, left = n/len(few), left-1 {
			steps = append(steps, few[n%len(few)])
		}
		play(t, pairOf("", ""), append(steps, step{call: "open"}))
	}
}

// drawnStep is any step.
func drawnStep(random *rand.Rand) step {
	data := strings.Repeat("xyz", 3)[:random.IntN(9)]
	switch random.IntN(12) {
	case 0:
		return step{call: "open"}
	case 1, 2, 3, 4:
		return step{call: "append", data: data}
	case 5, 6:
		return step{call: "compact", data: data}
	case 7:
		return step{call: "arm", after: 1 + random.IntN(6), keep: random.IntN(30)}
	}
	return step{call: []string{"restart", "open"}[random.IntN(2)]}
}

// drawnFile is the bytes of a file that is a journal's, or nearly.
func drawnFile(random *rand.Rand) string {
	out := ""
	if random.IntN(4) > 0 {
		out = head(uint64(random.IntN(4)), "old")
	}
	for range random.IntN(4) {
		out += []string{rec("one"), rec(""), framed(""), framed("Q"), head(2, ""), "junk", framed("Rx")[:9]}[random.IntN(7)]
	}
	return out[:len(out)-random.IntN(len(out)+1)*random.IntN(2)]
}

// 7.2 to 7.8: long plays, on disks that hold anything.
func TestDrawnPlays(t *testing.T) {
	random := rand.New(rand.NewPCG(7, 2))
	for range 4000 {
		p := pairOf(drawnFile(random), drawnFile(random))
		steps := []step{{call: "open"}}
		if random.IntN(2) == 0 {
			steps = []step{{call: "format", data: "new"}, {call: "open"}}
		}
		for range 40 {
			steps = append(steps, drawnStep(random))
		}
		play(t, p, steps)
	}
}
