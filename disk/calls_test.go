package disk_test

import (
	"math"
	"testing"

	"arrears/api"
	"arrears/disk"
)

// 5.1: a new disk is empty, up and has counted nothing; no crash waits.
func TestNew(t *testing.T) {
	for _, d := range []*disk.Disk{disk.New(), disk.Load(nil, nil), disk.Load([]byte{}, []byte{})} {
		reads(t, d, "", "")
		holds(t, d, "", "")
		counts(t, d, 0, false)
		for range 100 {
			is(t, "Sync of a new disk", d.Sync(0), api.OK)
		}
	}
}

// 5.1: what is loaded is durable, each file its own; it is no write.
func TestLoad(t *testing.T) {
	d := disk.Load([]byte("first"), []byte("2nd"))
	reads(t, d, "first", "2nd")
	holds(t, d, "first", "2nd")
	counts(t, d, 0, false)
	is(t, "Arm", d.Arm(1, 0), api.OK)
	is(t, "Append", d.Append(0, []byte("!")), api.ErrDown)
	holds(t, d, "first", "2nd")
}

// 5.1: of more than MaxFile bytes the first MaxFile are loaded, in each file.
func TestLoadTooLong(t *testing.T) {
	all := filled(api.MaxFile + 2)
	for more := -1; more <= 2; more++ {
		size := api.MaxFile + more
		for file := range 2 {
			given := [2][]byte{[]byte("a"), []byte("a")}
			given[file] = all[:size]
			d := disk.Load(given[0], given[1])
			want := all[:min(size, api.MaxFile)]
			read, e := d.Read(file)
			durable, f := d.Durable(file)
			is(t, "Read", e, api.OK)
			is(t, "Durable", f, api.OK)
			alike(t, "Read", read, want)
			alike(t, "Durable", durable, want)
			if got := told(d.Durable(1 - file)); got != `"a" 0` {
				t.Errorf("the other file: %s", got)
			}
		}
	}
}

// 5.2: what is appended stands at the file's end, and is pending.
func TestAppend(t *testing.T) {
	d := disk.Load([]byte("ab"), []byte("x"))
	is(t, "Append", d.Append(0, []byte("cd")), api.OK)
	is(t, "Append", d.Append(1, []byte{0, 255}), api.OK)
	is(t, "Append", d.Append(0, []byte("e")), api.OK)
	reads(t, d, "abcde", "x\x00\xff")
	holds(t, d, "ab", "x")
	counts(t, d, 3, false)
}

// 5.2: an Append of no bytes is a write, to a full file too, and makes nothing durable.
func TestAppendNothing(t *testing.T) {
	d := disk.Load(filled(api.MaxFile), nil)
	is(t, "Append", d.Append(1, []byte("p")), api.OK)
	for _, none := range [][]byte{nil, {}} {
		is(t, "Append of nothing to a full file", d.Append(0, none), api.OK)
		is(t, "Append of nothing", d.Append(1, none), api.OK)
	}
	counts(t, d, 5, false)
	if got := told(d.Durable(1)); got != `"" 0` {
		t.Errorf("5.2: Durable(1) = %s", got)
	}
	is(t, "Arm", d.Arm(1, 0), api.OK)
	is(t, "Append of nothing", d.Append(1, nil), api.ErrDown)
	counts(t, d, 6, true)
}

// 5.2: a file takes MaxFile bytes, durable and pending together, and no byte more.
func TestAppendFull(t *testing.T) {
	all := filled(api.MaxFile + 1)
	for file := range 2 {
		d := disk.New()
		is(t, "Append of more than a file", d.Append(file, all), api.ErrFull)
		is(t, "Append", d.Append(file, all[:1000]), api.OK)
		is(t, "Sync", d.Sync(file), api.OK)
		is(t, "Append", d.Append(file, all[1000:2000]), api.OK)
		is(t, "Append of a byte too many", d.Append(file, all[2000:]), api.ErrFull)
		is(t, "Append of a whole file behind some bytes", d.Append(file, all[1:]), api.ErrFull)
		counts(t, d, 3, false)
		is(t, "Append that fills to the byte", d.Append(file, all[2000:api.MaxFile]), api.OK)
		is(t, "Append of a byte beyond", d.Append(file, all[:1]), api.ErrFull)
		counts(t, d, 4, false)
		read, _ := d.Read(file)
		alike(t, "5.2: Read", read, all[:api.MaxFile])
		is(t, "Append to the other file", d.Append(1-file, all[:1]), api.OK)
		is(t, "Sync", d.Sync(file), api.OK)
		is(t, "Append to a synced full file", d.Append(file, all[:1]), api.ErrFull)
		is(t, "Truncate", d.Truncate(file, api.MaxFile-1), api.OK)
		is(t, "Append of two bytes", d.Append(file, all[:2]), api.ErrFull)
		is(t, "Append of one byte", d.Append(file, all[:1]), api.OK)
	}
}

// 5.2: an Append that is refused for its size is no write: a crash does not count it.
func TestFullCountsNothing(t *testing.T) {
	d := disk.Load(filled(api.MaxFile), nil)
	is(t, "Arm", d.Arm(1, 0), api.OK)
	for range 3 {
		is(t, "Append", d.Append(0, []byte("a")), api.ErrFull)
	}
	counts(t, d, 0, false)
	is(t, "Append", d.Append(1, []byte("a")), api.ErrDown)
}

// 5.3: a Sync makes the file's pending bytes durable, and leaves the other file's pending.
func TestSync(t *testing.T) {
	for file := range 2 {
		d := disk.Load([]byte("a"), []byte("a"))
		for _, piece := range []string{"b", "", "cd"} {
			is(t, "Append", d.Append(0, []byte(piece)), api.OK)
			is(t, "Append", d.Append(1, []byte(piece)), api.OK)
		}
		is(t, "Sync", d.Sync(file), api.OK)
		want := [2]string{"a", "a"}
		want[file] = "abcd"
		holds(t, d, want[0], want[1])
		reads(t, d, "abcd", "abcd")
		counts(t, d, 7, false)
	}
}

// 5.3: a Sync of a file that has nothing pending is a write, and changes no byte.
func TestSyncOfNothing(t *testing.T) {
	d := disk.Load([]byte("a"), nil)
	is(t, "Append", d.Append(1, []byte("p")), api.OK)
	is(t, "Arm", d.Arm(3, 0), api.OK)
	is(t, "Sync", d.Sync(0), api.OK)
	is(t, "Sync", d.Sync(0), api.OK)
	counts(t, d, 3, false)
	holds(t, d, "a", "")
	reads(t, d, "a", "p")
	is(t, "Sync, the third", d.Sync(0), api.ErrDown)
	counts(t, d, 4, true)
	holds(t, d, "a", "")
}

// 5.4: a Truncate keeps the first bytes, pending ones too, and makes them durable at once.
func TestTruncate(t *testing.T) {
	for file := range 2 {
		for size := range 7 {
			d := disk.Load([]byte("abc"), []byte("abc"))
			is(t, "Append", d.Append(0, []byte("def")), api.OK)
			is(t, "Append", d.Append(1, []byte("def")), api.OK)
			is(t, "Truncate", d.Truncate(file, size), api.OK)
			durable, read := [2]string{"abc", "abc"}, [2]string{"abcdef", "abcdef"}
			durable[file], read[file] = "abcdef"[:size], "abcdef"[:size]
			holds(t, d, durable[0], durable[1])
			reads(t, d, read[0], read[1])
			counts(t, d, 3, false)
			is(t, "Append", d.Append(file, []byte("!")), api.OK)
			read[file] += "!"
			holds(t, d, durable[0], durable[1])
			reads(t, d, read[0], read[1])
		}
	}
}

// 5.4: a size below 0 or above the file's length is refused, and is no write.
func TestTruncateOutside(t *testing.T) {
	d := disk.Load([]byte("ab"), []byte("xyz"))
	is(t, "Append", d.Append(0, []byte("c")), api.OK)
	is(t, "Arm", d.Arm(1, 9), api.OK)
	for _, size := range []int{-1, 4, 5, api.MaxFile, api.MaxFile + 1, math.MinInt, math.MaxInt} {
		is(t, "Truncate(0)", d.Truncate(0, size), api.ErrArg)
		is(t, "Truncate(1)", d.Truncate(1, size), api.ErrArg)
	}
	counts(t, d, 1, false)
	holds(t, d, "ab", "xyz")
	reads(t, d, "abc", "xyz")
	is(t, "Truncate of an empty file", disk.New().Truncate(0, 1), api.ErrArg)
	is(t, "Truncate of an empty file", disk.New().Truncate(1, 0), api.OK)
}

// 5.2 to 5.6: only 0 and 1 are files; that is said ahead of all else, up and down.
func TestNoSuchFile(t *testing.T) {
	up, down := upDown(t)
	for _, d := range []*disk.Disk{up, down} {
		isDown := d.Down()
		for _, file := range []int{-1, 2, 3, -2, 1 << 32, 1<<32 + 1, math.MinInt, math.MaxInt} {
			is(t, "Append", d.Append(file, []byte("q")), api.ErrFile)
			is(t, "Append of too much", d.Append(file, make([]byte, api.MaxFile+1)), api.ErrFile)
			is(t, "Sync", d.Sync(file), api.ErrFile)
			is(t, "Truncate", d.Truncate(file, 0), api.ErrFile)
			is(t, "Truncate below 0", d.Truncate(file, -1), api.ErrFile)
			if got := told(d.Read(file)) + told(d.Durable(file)); got != `"" 50"" 50` {
				t.Errorf("5.5, 5.6: Read, Durable(%d) = %s", file, got)
			}
		}
		counts(t, d, 1, isDown)
	}
	reads(t, up, "a", "")
	holds(t, down, "a", "")
}

// 5.2 to 5.5: a disk that is down says so ahead of what is wrong with a size, and changes nothing; 5.6: Durable still answers.
func TestWhileDown(t *testing.T) {
	_, d := upDown(t)
	is(t, "Arm", d.Arm(1, 0), api.OK)
	for file := range 2 {
		is(t, "Append", d.Append(file, []byte("q")), api.ErrDown)
		is(t, "Append of nothing", d.Append(file, nil), api.ErrDown)
		is(t, "Append of too much", d.Append(file, make([]byte, api.MaxFile+1)), api.ErrDown)
		is(t, "Sync", d.Sync(file), api.ErrDown)
		for _, size := range []int{0, 1, 2, -1, math.MinInt, math.MaxInt} {
			is(t, "Truncate", d.Truncate(file, size), api.ErrDown)
		}
		if got := told(d.Read(file)); got != `"" 51` {
			t.Errorf("5.5: Read(%d) = %s", file, got)
		}
	}
	holds(t, d, "a", "")
	counts(t, d, 1, true)
	is(t, "Restart", d.Restart(), api.OK)
	reads(t, d, "a", "")
	is(t, "Sync: the crash has not been counted down", d.Sync(0), api.ErrDown)
	counts(t, d, 2, true)
}

// 5.5, 5.6: Read tells all bytes and Durable the durable ones; neither is a write.
func TestReadDurable(t *testing.T) {
	d := disk.New()
	is(t, "Arm", d.Arm(3, 0), api.OK)
	is(t, "Append", d.Append(0, []byte("ab")), api.OK)
	for range 5 {
		reads(t, d, "ab", "")
		holds(t, d, "", "")
	}
	is(t, "Sync", d.Sync(0), api.OK)
	for range 5 {
		reads(t, d, "ab", "")
		holds(t, d, "ab", "")
	}
	counts(t, d, 2, false)
	is(t, "Sync", d.Sync(1), api.ErrDown)
}

// 5.9: Restart brings a disk up that is down, with its durable bytes and nothing pending; one that is up it refuses.
func TestRestart(t *testing.T) {
	d := disk.Load([]byte("a"), nil)
	is(t, "Append", d.Append(0, []byte("bcd")), api.OK)
	is(t, "Append", d.Append(1, []byte("x")), api.OK)
	is(t, "Restart while up", d.Restart(), api.ErrUp)
	reads(t, d, "abcd", "x")
	holds(t, d, "a", "")
	is(t, "Arm", d.Arm(1, 1), api.OK)
	is(t, "Sync", d.Sync(1), api.ErrDown)
	is(t, "Restart", d.Restart(), api.OK)
	counts(t, d, 3, false)
	reads(t, d, "ab", "x")
	holds(t, d, "ab", "x")
	is(t, "Restart again", d.Restart(), api.ErrUp)
	is(t, "Append", d.Append(0, []byte("!")), api.OK)
	reads(t, d, "ab!", "x")
	holds(t, d, "ab", "x")
	is(t, "Restart of a new disk", disk.New().Restart(), api.ErrUp)
}

// 5.10: Writes counts Append, Sync and Truncate each as one, and no other call.
func TestWrites(t *testing.T) {
	d := disk.New()
	is(t, "Append", d.Append(0, filled(100000)), api.OK)
	counts(t, d, 1, false)
	is(t, "Sync", d.Sync(0), api.OK)
	counts(t, d, 2, false)
	is(t, "Truncate", d.Truncate(0, 5), api.OK)
	counts(t, d, 3, false)
	is(t, "Arm", d.Arm(1, 0), api.OK)
	d.Disarm()
	is(t, "Arm", d.Arm(1, 0), api.OK)
	is(t, "Restart", d.Restart(), api.ErrUp)
	counts(t, d, 3, false)
	is(t, "Truncate", d.Truncate(0, 5), api.ErrDown)
	counts(t, d, 4, true)
	is(t, "Truncate", d.Truncate(0, 5), api.ErrDown)
	is(t, "Restart", d.Restart(), api.OK)
	counts(t, d, 4, false)
}
