package disk_test

import (
	"fmt"
	"math"
	"testing"

	"arrears/api"
	"arrears/disk"
)

// 5.7: which numbers a crash may have.
func TestArmNumbers(t *testing.T) {
	rows := []struct {
		after, keep int
		want        api.Errno
	}{
		{1, 0, api.OK}, {1, api.MaxFile, api.OK}, {api.MaxAfter, 0, api.OK}, {api.MaxAfter, api.MaxFile, api.OK},
		{0, 0, api.ErrArg}, {-1, 0, api.ErrArg}, {api.MaxAfter + 1, 0, api.ErrArg},
		{1, -1, api.ErrArg}, {1, api.MaxFile + 1, api.ErrArg}, {0, -1, api.ErrArg},
		{math.MinInt, 0, api.ErrArg}, {math.MaxInt, 0, api.ErrArg},
		{1, math.MinInt, api.ErrArg}, {1, math.MaxInt, api.ErrArg},
	}
	for _, row := range rows {
		d := disk.New()
		what := fmt.Sprintf("5.7: Arm(%d, %d)", row.after, row.keep)
		is(t, what, d.Arm(row.after, row.keep), row.want)
		counts(t, d, 0, false)
		goesDown := row.want == api.OK && row.after == 1
		if got := d.Sync(0) == api.ErrDown; got != goesDown {
			t.Errorf("%s: the next write goes down: %v, want %v", what, got, goesDown)
		}
	}
}

// 5.7: MaxArmed crashes may wait and no more; ErrArg is said ahead of ErrLong. They come to pass one behind the other.
func TestArmMany(t *testing.T) {
	d := disk.New()
	for i := range api.MaxArmed {
		is(t, "Arm", d.Arm(1+i%3, i), api.OK)
	}
	is(t, "Arm of one more", d.Arm(1, 0), api.ErrLong)
	is(t, "Arm of one more that may not be", d.Arm(0, 0), api.ErrArg)
	is(t, "Arm of one more that may not be", d.Arm(1, api.MaxFile+1), api.ErrArg)
	for i := range api.MaxArmed {
		for range i % 3 {
			is(t, "Truncate", d.Truncate(0, 0), api.OK)
		}
		is(t, "Append", d.Append(0, make([]byte, 100)), api.ErrDown)
		if b, _ := d.Durable(0); i%3 > 0 && len(b) != i {
			t.Errorf("5.7: crash %d kept %d bytes", i, len(b))
		}
		is(t, "Restart", d.Restart(), api.OK)
	}
	is(t, "Append: none waits any more", d.Append(1, nil), api.OK)
	counts(t, d, 64+63+1, false)
}

// 5.7: a place is free again for each crash that came to pass, also while the disk is down.
func TestArmAgain(t *testing.T) {
	d := disk.New()
	for range api.MaxArmed {
		is(t, "Arm", d.Arm(1, 0), api.OK)
	}
	for range 200 {
		is(t, "Arm of one more", d.Arm(1, 0), api.ErrLong)
		is(t, "Sync", d.Sync(0), api.ErrDown)
		is(t, "Arm while down", d.Arm(1, 0), api.OK)
		is(t, "Arm of one more while down", d.Arm(1, 0), api.ErrLong)
		is(t, "Restart", d.Restart(), api.OK)
	}
}

// 5.7: a crash may wait for MaxAfter writes.
func TestMaxAfter(t *testing.T) {
	d := disk.New()
	is(t, "Arm", d.Arm(api.MaxAfter, 0), api.OK)
	for range api.MaxAfter - 1 {
		if e := d.Sync(1); e != api.OK {
			t.Fatalf("5.7: down at write %d", d.Writes())
		}
	}
	is(t, "Sync", d.Sync(1), api.ErrDown)
	counts(t, d, api.MaxAfter, true)
}

// crashing is a disk of "ab" and "uv" with "cde" and "wxyz" pending, which goes down at its after-th write, and has had those ahead of it.
func crashing(t *testing.T, after, keep int) *disk.Disk {
	t.Helper()
	d := disk.Load([]byte("ab"), []byte("uv"))
	is(t, "Append", d.Append(0, []byte("cde")), api.OK)
	is(t, "Append", d.Append(1, []byte("wxyz")), api.OK)
	is(t, "Arm", d.Arm(after, keep), api.OK)
	for range after - 1 {
		is(t, "Append of nothing", d.Append(0, nil), api.OK)
	}
	return d
}

// 5.2 to 5.4, 5.9: at a crash the write does not do its work, but the bytes of an Append join the pending ones; of each file the first keep pending bytes stay.
func TestCrashKeeps(t *testing.T) {
	rows := []struct {
		what          string
		do            func(d *disk.Disk) api.Errno
		first, second string
	}{
		{"Sync(0)", func(d *disk.Disk) api.Errno { return d.Sync(0) }, "cde", "wxyz"},
		{"Sync(1)", func(d *disk.Disk) api.Errno { return d.Sync(1) }, "cde", "wxyz"},
		{"Truncate(0, 0)", func(d *disk.Disk) api.Errno { return d.Truncate(0, 0) }, "cde", "wxyz"},
		{"Truncate(0, 3)", func(d *disk.Disk) api.Errno { return d.Truncate(0, 3) }, "cde", "wxyz"},
		{"Truncate(1, 6)", func(d *disk.Disk) api.Errno { return d.Truncate(1, 6) }, "cde", "wxyz"},
		{"Append(0, FG)", func(d *disk.Disk) api.Errno { return d.Append(0, []byte("FG")) }, "cdeFG", "wxyz"},
		{"Append(1, FG)", func(d *disk.Disk) api.Errno { return d.Append(1, []byte("FG")) }, "cde", "wxyzFG"},
		{"Append(1, nil)", func(d *disk.Disk) api.Errno { return d.Append(1, nil) }, "cde", "wxyz"},
	}
	for _, row := range rows {
		for _, keep := range []int{0, 1, 2, 3, 4, 5, 6, 7, 1000, api.MaxFile} {
			for after := 1; after <= 3; after++ {
				d := crashing(t, after, keep)
				is(t, row.what, row.do(d), api.ErrDown)
				counts(t, d, 2+after, true)
				first := "ab" + row.first[:min(keep, len(row.first))]
				second := "uv" + row.second[:min(keep, len(row.second))]
				holds(t, d, first, second)
				is(t, "Restart", d.Restart(), api.OK)
				reads(t, d, first, second)
				holds(t, d, first, second)
				is(t, "Sync: the crash is gone", d.Sync(0), api.OK)
			}
		}
	}
}

// 5.2: an Append that fills a file and is kept whole by a crash.
func TestCrashKeepsAFullFile(t *testing.T) {
	all := filled(api.MaxFile)
	for _, keep := range []int{0, 1, api.MaxFile - 1, api.MaxFile} {
		d := disk.New()
		is(t, "Arm", d.Arm(1, keep), api.OK)
		is(t, "Append", d.Append(1, all), api.ErrDown)
		b, _ := d.Durable(1)
		alike(t, "5.2: kept", b, all[:keep])
	}
}

// 5.7: a crash counts from its arming if none waits, else from when the one ahead of it came to pass.
func TestCrashesInTurn(t *testing.T) {
	d := disk.New()
	var downAt []int
	arm := func(after int) { is(t, "Arm", d.Arm(after, 0), api.OK) }
	write := func(times int) {
		for range times {
			if d.Sync(0) == api.ErrDown {
				downAt = append(downAt, d.Writes())
				is(t, "Restart", d.Restart(), api.OK)
			}
		}
	}
	write(4)
	arm(3) // at 7
	write(1)
	arm(2) // two behind 7
	arm(1) // one behind 9
	write(1)
	arm(5) // five behind 10
	write(20)
	arm(2) // none waits: at 28
	write(5)
	if got := fmt.Sprint(downAt); got != "[7 9 10 15 28]" {
		t.Errorf("5.7: down at %s", got)
	}
}

// 5.7: a crash that is armed while the disk is down counts from the first write behind the restart.
func TestArmWhileDown(t *testing.T) {
	_, d := upDown(t)
	is(t, "Arm while down", d.Arm(2, 1), api.OK)
	counts(t, d, 1, true)
	is(t, "Sync while down", d.Sync(0), api.ErrDown)
	is(t, "Restart", d.Restart(), api.OK)
	is(t, "Append", d.Append(0, []byte("bc")), api.OK)
	is(t, "Append", d.Append(1, []byte("xy")), api.ErrDown)
	holds(t, d, "ab", "x")
	counts(t, d, 3, true)
}

// 5.8: Disarm empties the queue, and leaves the disk up or down as it is.
func TestDisarm(t *testing.T) {
	up, down := upDown(t)
	for _, d := range []*disk.Disk{up, down} {
		isDown := d.Down()
		d.Disarm()
		for range api.MaxArmed {
			is(t, "Arm", d.Arm(1, 0), api.OK)
		}
		d.Disarm()
		counts(t, d, 1, isDown)
	}
	reads(t, up, "a", "")
	holds(t, up, "", "")
	holds(t, down, "a", "")
	is(t, "Restart", down.Restart(), api.OK)
	reads(t, down, "a", "")
	for _, d := range []*disk.Disk{up, down} {
		for range 5 {
			is(t, "Sync", d.Sync(0), api.OK)
		}
		for range api.MaxArmed {
			is(t, "Arm: all places are free again", d.Arm(1, 0), api.OK)
		}
	}
}

// 5.8: what a crash had counted is forgotten with it.
func TestDisarmForgets(t *testing.T) {
	d := disk.New()
	is(t, "Arm", d.Arm(3, 0), api.OK)
	is(t, "Sync", d.Sync(0), api.OK)
	is(t, "Sync", d.Sync(0), api.OK)
	d.Disarm()
	is(t, "Arm", d.Arm(3, 0), api.OK)
	is(t, "Sync", d.Sync(0), api.OK)
	is(t, "Sync", d.Sync(0), api.OK)
	is(t, "Sync", d.Sync(0), api.ErrDown)
}

// 5.9: crashes that wait go on waiting over a restart.
func TestRestartKeepsWaiting(t *testing.T) {
	d := disk.New()
	for range 3 {
		is(t, "Arm", d.Arm(1, 0), api.OK)
	}
	for range 3 {
		is(t, "Append", d.Append(0, []byte("a")), api.ErrDown)
		is(t, "Restart", d.Restart(), api.OK)
	}
	is(t, "Append", d.Append(0, []byte("a")), api.OK)
}
