package disk

import (
	"slices"

	"arrears/api"
)

// crash waits for so many writes more, counted only while it is the first of the queue, and then keeps so many pending bytes of each file.
type crash struct {
	after, keep int
}

// Arm lets a crash wait.
func (d *Disk) Arm(after, keep int) api.Errno {
	if after < 1 || after > api.MaxAfter || keep < 0 || keep > api.MaxFile {
		return api.ErrArg
	}
	if len(d.queue) == api.MaxArmed {
		return api.ErrLong
	}
	d.queue = append(d.queue, crash{after: after, keep: keep})
	return api.OK
}

// Disarm forgets the crashes that wait.
func (d *Disk) Disarm() { d.queue = nil }

// write counts a write, and answers ErrDown if the disk goes down at it.
func (d *Disk) write() api.Errno {
	d.writes++
	if len(d.queue) == 0 {
		return api.OK
	}
	first := &d.queue[0]
	first.after--
	if first.after > 0 {
		return api.OK
	}
	d.goDown(first.keep)
	return api.ErrDown
}

// goDown lets the first crash of the queue come to pass.
func (d *Disk) goDown(keep int) {
	for i := range d.files {
		d.files[i].lose(keep)
	}
	d.queue = slices.Delete(d.queue, 0, 1)
	d.down = true
}
