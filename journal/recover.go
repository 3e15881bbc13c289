package journal

import "arrears/api"

// format lays an empty journal into file 0. Both files are emptied first: an old header with a greater epoch would win over the new one.
func format(s store, snapshot []byte) api.Errno {
	framed, ok := headerFrame(firstEpoch, snapshot)
	if !ok {
		return api.ErrLong
	}
	both, e := readBoth(s)
	if e != api.OK {
		return e
	}
	for _, file := range []int{1, 0} {
		if e := cut(s, file, both[file], 0); e != api.OK {
			return e
		}
	}
	return lay(s, 0, framed)
}

// recovered finds the journal in the two files, and clears away what is none of it.
func recovered(s store) (*Journal, api.Recovered, api.Errno) {
	both, e := readBoth(s)
	if e != api.OK {
		return nil, api.Recovered{}, e
	}
	file, head, ok := newest(both)
	if !ok {
		return nil, api.Recovered{}, api.ErrBlank
	}
	records, end := readRecords(both[file], head.end)
	if e := cut(s, file, both[file], end); e != api.OK {
		return nil, api.Recovered{}, e
	}
	if e := cut(s, other(file), both[other(file)], 0); e != api.OK {
		return nil, api.Recovered{}, e
	}
	j := &Journal{disk: s, file: file, epoch: head.epoch, count: len(records)}
	found := api.Recovered{Epoch: head.epoch, Snapshot: head.snapshot, Records: records, Cut: len(both[file]) - end}
	return j, found, api.OK
}

// newest is the headed file with the greatest epoch, the first of those that have the same.
func newest(both [files][]byte) (file int, head header, found bool) {
	for i, held := range both {
		h, ok := readHeader(held)
		if ok && (!found || h.epoch > head.epoch) {
			file, head, found = i, h, true
		}
	}
	return file, head, found
}
