package disk_test

import (
	"bytes"
	"fmt"
	"testing"

	"arrears/api"
	"arrears/disk"
)

// is holds an answer against the one that the document asks for.
func is(t *testing.T, what string, got, want api.Errno) {
	t.Helper()
	if got != want {
		t.Errorf("%s = %d, want %d", what, got, want)
	}
}

// told is what Read or Durable answers, as a text.
func told(b []byte, e api.Errno) string {
	return fmt.Sprintf("%q %d", b, e)
}

// holds asks for the durable bytes of both files.
func holds(t *testing.T, d *disk.Disk, first, second string) {
	t.Helper()
	for file, want := range []string{first, second} {
		if got := told(d.Durable(file)); got != told([]byte(want), api.OK) {
			t.Errorf("Durable(%d) = %s, want %q", file, got, want)
		}
	}
}

// reads asks for the bytes of both files, the pending ones too.
func reads(t *testing.T, d *disk.Disk, first, second string) {
	t.Helper()
	for file, want := range []string{first, second} {
		if got := told(d.Read(file)); got != told([]byte(want), api.OK) {
			t.Errorf("Read(%d) = %s, want %q", file, got, want)
		}
	}
}

// counts asks for the writes, and whether the disk is down.
func counts(t *testing.T, d *disk.Disk, writes int, down bool) {
	t.Helper()
	if d.Writes() != writes || d.Down() != down {
		t.Errorf("Writes, Down = %d, %v, want %d, %v", d.Writes(), d.Down(), writes, down)
	}
}

// upDown is one disk that is up and one that is down, both with one pending or durable byte "a" in file 0.
func upDown(t *testing.T) (up, down *disk.Disk) {
	t.Helper()
	up, down = disk.New(), disk.New()
	is(t, "Append", up.Append(0, []byte("a")), api.OK)
	is(t, "Arm", down.Arm(1, 1), api.OK)
	is(t, "Append", down.Append(0, []byte("a")), api.ErrDown)
	return up, down
}

// filled is a file's worth of bytes, each telling something of its place.
func filled(size int) []byte {
	out := make([]byte, size)
	for i := range out {
		out[i] = byte(i*7 + i>>8 + i>>16)
	}
	return out
}

// alike tells of great bytes only whether they are the same.
func alike(t *testing.T, what string, got, want []byte) {
	t.Helper()
	if !bytes.Equal(got, want) {
		t.Errorf("%s: %d bytes, want %d, or others", what, len(got), len(want))
	}
}

type example struct {
	calls         string
	do            func(d *disk.Disk) string
	want          string
	first, second string
}

func examples() []example {
	line := fmt.Sprint
	text := func(s string) []byte { return []byte(s) }
	return []example{
		{`Append(0, "abc")`, func(d *disk.Disk) string { return line(d.Append(0, text("abc"))) }, "0", "", ""},
		{`Read(0)`, func(d *disk.Disk) string { return told(d.Read(0)) }, `"abc" 0`, "", ""},
		{`Sync(1)`, func(d *disk.Disk) string { return line(d.Sync(1)) }, "0", "", ""},
		{`Sync(0)`, func(d *disk.Disk) string { return line(d.Sync(0)) }, "0", "abc", ""},
		{`Append(0, "de"), Append(1, "xyz")`, func(d *disk.Disk) string {
			return line(d.Append(0, text("de")), d.Append(1, text("xyz")))
		}, "0 0", "abc", ""},
		{`Arm(2, 1)`, func(d *disk.Disk) string { return line(d.Arm(2, 1)) }, "0", "abc", ""},
		{`Arm(1, 0)`, func(d *disk.Disk) string { return line(d.Arm(1, 0)) }, "0", "abc", ""},
		{`Append(2, "q"), Truncate(0, 6), Truncate(0, -1)`, func(d *disk.Disk) string {
			return line(d.Append(2, text("q")), d.Truncate(0, 6), d.Truncate(0, -1))
		}, "50 2 2", "abc", ""},
		{`Append(0, "f")`, func(d *disk.Disk) string { return line(d.Append(0, text("f"))) }, "0", "abc", ""},
		{`Sync(0)`, func(d *disk.Disk) string { return line(d.Sync(0)) }, "51", "abcd", "x"},
		{`Writes(), Down()`, func(d *disk.Disk) string { return line(d.Writes(), d.Down()) }, "7 true", "abcd", "x"},
		{`Read(0), Append(0, ""), Append(2, "")`, func(d *disk.Disk) string {
			return told(d.Read(0)) + " " + line(d.Append(0, text("")), d.Append(2, text("")))
		}, `"" 51 51 50`, "abcd", "x"},
		{`Restart(), Restart()`, func(d *disk.Disk) string { return line(d.Restart(), d.Restart()) }, "0 53", "abcd", "x"},
		{`Read(0)`, func(d *disk.Disk) string { return told(d.Read(0)) }, `"abcd" 0`, "abcd", "x"},
		{`Truncate(0, 0)`, func(d *disk.Disk) string { return line(d.Truncate(0, 0)) }, "51", "abcd", "x"},
		{`Restart(), Truncate(0, 2), Append(0, "z"), Truncate(0, 3)`, func(d *disk.Disk) string {
			return line(d.Restart(), d.Truncate(0, 2), d.Append(0, text("z")), d.Truncate(0, 3))
		}, "0 0 0 0", "abz", "x"},
		{`Arm(0, 0), Arm(1, -1), Arm(1000001, 0), Arm(1, 16777217)`, func(d *disk.Disk) string {
			return line(d.Arm(0, 0), d.Arm(1, -1), d.Arm(1000001, 0), d.Arm(1, 16777217))
		}, "2 2 2 2", "abz", "x"},
		{`Durable(2), Durable(-1), Read(5)`, func(d *disk.Disk) string {
			return told(d.Durable(2)) + " " + told(d.Durable(-1)) + " " + told(d.Read(5))
		}, `"" 50 "" 50 "" 50`, "abz", "x"},
	}
}

// 5.1 to 5.10: the chapter's examples, row by row on one disk.
func TestExamples(t *testing.T) {
	d := disk.New()
	for _, row := range examples() {
		if got := row.do(d); got != row.want {
			t.Errorf("%s = %s, want %s", row.calls, got, row.want)
		}
		holds(t, d, row.first, row.second)
	}
	counts(t, d, 11, false)
}
