package disk

import (
	"slices"

	"arrears/api"
)

// file is one file: its durable bytes, and behind them those that are pending.
type file struct {
	bytes   []byte
	durable int
}

// loaded is a file that holds a copy of the bytes, as far as they fit, all durable.
func loaded(data []byte) file {
	kept := copied(data[:min(len(data), api.MaxFile)])
	return file{bytes: kept, durable: len(kept)}
}

// room is how many bytes the file could still take.
func (f *file) room() int { return api.MaxFile - len(f.bytes) }

// add lays a copy of the data behind the file's bytes, pending.
func (f *file) add(data []byte) {
	end := len(f.bytes)
	f.bytes = slices.Grow(f.bytes, len(data))[:end+len(data)]
	copy(f.bytes[end:], data)
}

// cut keeps the file's first bytes, all durable.
func (f *file) cut(size int) {
	f.bytes = f.bytes[:size]
	f.durable = size
}

// lose keeps, of what is pending, the first keep bytes at most, and makes them durable.
func (f *file) lose(keep int) {
	pending := len(f.bytes) - f.durable
	f.cut(f.durable + min(keep, pending))
}

// copied is the same bytes in memory of their own, so that no caller holds a piece of the disk.
func copied(b []byte) []byte {
	out := make([]byte, len(b))
	copy(out, b)
	return out
}
