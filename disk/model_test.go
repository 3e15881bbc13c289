package disk_test

import (
	"fmt"
	"math/rand/v2"
	"slices"
	"strings"
	"testing"

	"arrears/api"
	"arrears/disk"
)

// A model tells what the chapter says with other means: pending bytes apart from durable ones, and of each crash the number of the write at which it comes.
type model struct {
	durable, pending [2]string
	crashes          []waiting
	freed            int // the write at which the last crash came, or the queue was empty last
	writes           int
	down             bool
}

type waiting struct{ after, keep int }

func (m *model) all(file int) string { return m.durable[file] + m.pending[file] }

// comes counts a write, and lets a crash come if it is its turn.
func (m *model) comes() bool {
	m.writes++
	if len(m.crashes) == 0 || m.writes < m.freed+m.crashes[0].after {
		return false
	}
	for file := range 2 {
		m.durable[file] += m.pending[file][:min(len(m.pending[file]), m.crashes[0].keep)]
		m.pending[file] = ""
	}
	m.crashes, m.freed, m.down = m.crashes[1:], m.writes, true
	return true
}

// refuses is the error that stands ahead of a write.
func (m *model) refuses(s step) api.Errno {
	switch {
	case s.file != 0 && s.file != 1:
		return api.ErrFile
	case m.down:
		return api.ErrDown
	case s.call == "truncate" && (s.size < 0 || s.size > len(m.all(s.file))):
		return api.ErrArg
	}
	return api.OK
}

func (m *model) do(s step) api.Errno {
	switch s.call {
	case "arm":
		if len(m.crashes) == 0 {
			m.freed = m.writes
		}
		m.crashes = append(slices.Clone(m.crashes), waiting{s.file, s.size})
		return api.OK
	case "disarm":
		m.crashes = nil
		return api.OK
	case "restart":
		if !m.down {
			return api.ErrUp
		}
		m.down = false
		return api.OK
	}
	if e := m.refuses(s); e != api.OK {
		return e
	}
	if s.call == "append" {
		m.pending[s.file] += s.data
	}
	if m.comes() {
		return api.ErrDown
	}
	switch s.call {
	case "sync":
		m.durable[s.file], m.pending[s.file] = m.all(s.file), ""
	case "truncate":
		m.durable[s.file], m.pending[s.file] = m.all(s.file)[:s.size], ""
	}
	return api.OK
}

// tells is all that can be asked of a disk, as a text.
func (m *model) tells() string {
	var out strings.Builder
	for file := range 2 {
		if m.down {
			fmt.Fprintf(&out, "%s ", told(nil, api.ErrDown))
		} else {
			fmt.Fprintf(&out, "%s ", told([]byte(m.all(file)), api.OK))
		}
		fmt.Fprintf(&out, "%s ", told([]byte(m.durable[file]), api.OK))
	}
	return out.String() + fmt.Sprint(m.writes, m.down)
}

// step is one call; an arm has its after in file and its keep in size.
type step struct {
	call       string
	file, size int
	data       string
}

func do(d *disk.Disk, s step) api.Errno {
	switch s.call {
	case "append":
		return d.Append(s.file, []byte(s.data))
	case "sync":
		return d.Sync(s.file)
	case "truncate":
		return d.Truncate(s.file, s.size)
	case "arm":
		return d.Arm(s.file, s.size)
	case "restart":
		return d.Restart()
	}
	d.Disarm()
	return api.OK
}

func tells(d *disk.Disk) string {
	out := ""
	for file := range 2 {
		out += told(d.Read(file)) + " " + told(d.Durable(file)) + " "
	}
	return out + fmt.Sprint(d.Writes(), d.Down())
}

// play holds a disk against the model behind each step, and stops at the first that is not alike.
func play(t *testing.T, steps []step) {
	t.Helper()
	d, m := disk.New(), &model{}
	for i, s := range steps {
		got, want := do(d, s), m.do(s)
		if g, w := tells(d), m.tells(); got != want || g != w {
			t.Fatalf("behind %v: %d and %s, want %d and %s", steps[:i+1], got, g, want, w)
		}
	}
}

// few is a small set of steps of all kinds.
func few() []step {
	return []step{
		{call: "append", file: 0, data: "abc"},
		{call: "append", file: 1, data: "xy"},
		{call: "append", file: 0},
		{call: "append", file: 2, data: "q"},
		{call: "sync", file: 0},
		{call: "sync", file: 1},
		{call: "truncate", file: 0, size: 2},
		{call: "truncate", file: 1, size: 0},
		{call: "truncate", file: 0, size: -1},
		{call: "arm", file: 1, size: 1},
		{call: "arm", file: 2, size: 0},
		{call: "disarm"},
		{call: "restart"},
	}
}

// 5.2 to 5.10: every row of four steps, of a small set.
func TestAllShortRows(t *testing.T) {
	set := few()
	var row []step
	var longer func()
	longer = func() {
		if len(row) == 4 {
			play(t, row)
			return
		}
		for _, s := range set {
			row = append(row, s)
			longer()
			row = row[:len(row)-1]
		}
	}
	longer()
}

// chosen is a step by lot, crashes few enough that no queue is full.
func chosen(r *rand.Rand) step {
	file := r.IntN(2)
	switch r.IntN(12) {
	case 0, 1, 2, 3:
		return step{call: "append", file: file, data: "abcdefghijklmnopqrstuvwxyz"[:r.IntN(27)]}
	case 4, 5:
		return step{call: "sync", file: file}
	case 6:
		return step{call: "truncate", file: file, size: r.IntN(60) - 2}
	case 7, 8:
		return step{call: "restart"}
	case 9:
		return step{call: "arm", file: 1 + r.IntN(9), size: r.IntN(30)}
	case 10:
		if r.IntN(20) == 0 {
			return step{call: "disarm"}
		}
		return step{call: "sync", file: file}
	}
	return step{call: "append", file: r.IntN(5) - 2, data: "q"}
}

// 5.2 to 5.10: long rows of steps.
func TestLongRows(t *testing.T) {
	r := rand.New(rand.NewPCG(5, 11))
	for range 400 {
		var row []step
		for range 300 {
			if s := chosen(r); s.call != "arm" || armed(row) < api.MaxArmed {
				row = append(row, s)
			}
		}
		play(t, row)
	}
}

func armed(row []step) int {
	n := 0
	for _, s := range row {
		if s.call == "arm" {
			n++
		}
	}
	return n
}

// files is what both files hold.
type files struct{ read, durable [2]string }

// seen is what both files hold; read stays empty while the disk is down.
func seen(d *disk.Disk) files {
	var out files
	for file := range 2 {
		read, _ := d.Read(file)
		durable, _ := d.Durable(file)
		out.read[file], out.durable[file] = string(read), string(durable)
	}
	return out
}

// 5.11: what is durable stays; a crash keeps a first part of each file, with all that was durable; behind a Sync all is durable.
func TestWhatFollows(t *testing.T) {
	r := rand.New(rand.NewPCG(11, 5))
	for range 400 {
		d := disk.New()
		for range 200 {
			s, before, wasDown := chosen(r), seen(d), d.Down()
			e := do(d, s)
			follows(t, s, e, before, seen(d), !wasDown && d.Down())
		}
	}
}

func follows(t *testing.T, s step, e api.Errno, before, after files, crashed bool) {
	t.Helper()
	for file := range 2 {
		cuts := s.call == "truncate" && s.file == file && e == api.OK
		if !cuts && !strings.HasPrefix(after.durable[file], before.durable[file]) {
			t.Fatalf("5.11: %v lost of %q, left %q", s, before.durable[file], after.durable[file])
		}
		had := before.read[file]
		if s.call == "append" && s.file == file {
			had += s.data
		}
		if crashed && !strings.HasPrefix(had, after.durable[file]) {
			t.Fatalf("5.11: the crash at %v left %q of %q", s, after.durable[file], had)
		}
		if s.call == "sync" && s.file == file && e == api.OK && after.durable[file] != before.read[file] {
			t.Fatalf("5.11: behind %v %q of %q is durable", s, after.durable[file], before.read[file])
		}
	}
}
