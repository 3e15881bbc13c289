package disk_test

import (
	"bytes"
	"slices"
	"testing"

	"arrears/api"
	"arrears/disk"
)

// guarded lays bytes into the midst of a longer memory, and hands out that memory too.
func guarded(text string) (inside, all []byte) {
	all = slices.Concat(bytes.Repeat([]byte{0xa5}, 8), []byte(text), bytes.Repeat([]byte{0xa5}, 64))
	return all[8 : 8+len(text)], all
}

// overwrite writes over bytes and their spare room.
func overwrite(b []byte) {
	b = b[:cap(b)]
	for i := range b {
		b[i] = '#'
	}
}

// everything makes a disk go through all calls.
func everything(t *testing.T, d *disk.Disk) {
	t.Helper()
	for file := range 2 {
		is(t, "Append", d.Append(file, []byte("more")), api.OK)
		is(t, "Truncate", d.Truncate(file, 2), api.OK)
		is(t, "Append", d.Append(file, []byte("behind it")), api.OK)
		is(t, "Sync", d.Sync(file), api.OK)
		is(t, "Arm", d.Arm(1, 2), api.OK)
		is(t, "Append", d.Append(file, []byte("lost")), api.ErrDown)
		is(t, "Restart", d.Restart(), api.OK)
	}
}

// 5.1, 5.2: bytes that are handed in stay, those ahead of them and behind them too, whatever comes later.
func TestGivenBytesStay(t *testing.T) {
	first, all0 := guarded("first")
	second, all1 := guarded("second")
	data, all2 := guarded("data")
	before := [][]byte{bytes.Clone(all0), bytes.Clone(all1), bytes.Clone(all2)}
	d := disk.Load(first, second)
	is(t, "Append", d.Append(0, data), api.OK)
	is(t, "Append", d.Append(1, data), api.OK)
	is(t, "Append", d.Append(2, data), api.ErrFile)
	fresh := disk.New()
	is(t, "Append", fresh.Append(0, data), api.OK)
	is(t, "Append", fresh.Append(1, data), api.OK)
	everything(t, d)
	everything(t, fresh)
	for i, all := range [][]byte{all0, all1, all2} {
		if !bytes.Equal(all, before[i]) {
			t.Errorf("5.1, 5.2: bytes that were handed in changed: %q", all)
		}
	}
}

// 5.1, 5.2: bytes that are handed in are not kept.
func TestGivenBytesAreNotKept(t *testing.T) {
	first, second := []byte("first"), []byte("second")
	d := disk.Load(first, second)
	overwrite(first)
	overwrite(second)
	reads(t, d, "first", "second")
	fresh := disk.New()
	for _, d := range []*disk.Disk{d, fresh} {
		for file := range 2 {
			for _, text := range []string{"abc", "defg"} {
				data, all := guarded(text)
				is(t, "Append", d.Append(file, data), api.OK)
				overwrite(all)
			}
		}
	}
	reads(t, d, "firstabcdefg", "secondabcdefg")
	reads(t, fresh, "abcdefg", "abcdefg")
	// One memory for all pieces, as a caller has that fills a buffer anew.
	one := make([]byte, 1)
	for _, c := range []byte("hij") {
		one[0] = c
		is(t, "Append", fresh.Append(0, one), api.OK)
	}
	reads(t, fresh, "abcdefghij", "abcdefg")
}

// 5.5, 5.6: what is answered is new memory, its spare room too: writing over it changes no disk and no other answer.
func TestAnswersAreNew(t *testing.T) {
	d := disk.Load([]byte("ab"), []byte("xyz"))
	is(t, "Append", d.Append(0, []byte("cd")), api.OK)
	var answers [][]byte
	for file := range 2 {
		for range 2 {
			read, _ := d.Read(file)
			durable, _ := d.Durable(file)
			answers = append(answers, read, durable)
		}
	}
	want := []string{"abcd", "ab", "abcd", "ab", "xyz", "xyz", "xyz", "xyz"}
	for i, b := range answers {
		for j, other := range answers[i:] {
			if string(other) != want[i+j] {
				t.Fatalf("5.5, 5.6: answer %d is %q when %d are written over", i+j, other, i)
			}
		}
		overwrite(b)
	}
	reads(t, d, "abcd", "xyz")
	holds(t, d, "ab", "xyz")
	is(t, "Sync", d.Sync(0), api.OK)
	holds(t, d, "abcd", "xyz")
}

// 5.5, 5.6: what was answered does not change with what is called later.
func TestAnswersStay(t *testing.T) {
	d := disk.Load([]byte("abcdef"), []byte("uvwxyz"))
	var answers [][]byte
	for file := range 2 {
		read, _ := d.Read(file)
		durable, _ := d.Durable(file)
		answers = append(answers, read, durable)
	}
	everything(t, d)
	for i, b := range answers {
		if want := []string{"abcdef", "uvwxyz"}[i/2]; string(b) != want {
			t.Errorf("5.5, 5.6: an answer became %q", b)
		}
	}
}

// 5.5, 5.6: while the disk is down, what Durable answers is new memory too.
func TestDurableWhileDown(t *testing.T) {
	_, d := upDown(t)
	b, _ := d.Durable(0)
	overwrite(b)
	holds(t, d, "a", "")
	is(t, "Restart", d.Restart(), api.OK)
	reads(t, d, "a", "")
}

// 5.11: two disks that were made alike do not know of one another.
func TestTwoDisks(t *testing.T) {
	first, second := []byte("ab"), []byte("xy")
	made := []func() *disk.Disk{
		disk.New,
		func() *disk.Disk { return disk.Load(first, second) },
		func() *disk.Disk { return disk.Load(first, first) },
	}
	for _, fresh := range made {
		one, other := fresh(), fresh()
		before := tells(other)
		for range api.MaxArmed {
			is(t, "Arm", one.Arm(2, 1), api.OK)
		}
		is(t, "Append", one.Append(0, []byte("cd")), api.OK)
		is(t, "Append", one.Append(1, []byte("zz")), api.ErrDown)
		if got := tells(other); got != before {
			t.Errorf("5.11: %s became %s", before, got)
		}
		after := tells(one)
		everything(t, other)
		is(t, "Arm", other.Arm(9, 0), api.OK)
		other.Disarm()
		if got := tells(one); got != after {
			t.Errorf("5.11: %s became %s", after, got)
		}
		is(t, "Arm", one.Arm(1, 0), api.OK)
		is(t, "Arm: the queue is full again", one.Arm(1, 0), api.ErrLong)
	}
}

// 5.11: the two files of one disk that were loaded from the same bytes go their own ways.
func TestTwoFiles(t *testing.T) {
	data, _ := guarded("same")
	d := disk.Load(data, data)
	is(t, "Truncate", d.Truncate(0, 1), api.OK)
	is(t, "Append", d.Append(0, []byte("12345")), api.OK)
	reads(t, d, "s12345", "same")
	is(t, "Append", d.Append(1, []byte("!")), api.OK)
	reads(t, d, "s12345", "same!")
}
