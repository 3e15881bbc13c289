package journal

import (
	"slices"

	"arrears/frame"
	"arrears/wire"
)

// What a frame of the journal holds is told by its payload's first byte.
const (
	headerMark = 0x48
	recordMark = 0x52
)

const (
	firstEpoch = 1
	lastEpoch  = 1<<63 - 1
)

// header is what stands at the front of a headed file, and the place behind it.
type header struct {
	epoch    int
	snapshot []byte
	end      int
}

// headerFrame is the frame of a header, refused if it would be too long.
func headerFrame(epoch int, snapshot []byte) ([]byte, bool) {
	return frame.Encode(slices.Concat([]byte{headerMark}, wire.PutUint(uint64(epoch)), snapshot))
}

// recordFrame is the frame of a record, refused if it would be too long.
func recordFrame(record []byte) ([]byte, bool) {
	return frame.Encode(slices.Concat([]byte{recordMark}, record))
}

// readHeader reads the header of a file; false, if the file is not headed.
func readHeader(file []byte) (header, bool) {
	body, end, ok := marked(file, 0, headerMark)
	if !ok {
		return header{}, false
	}
	epoch, from, ok := wire.Uint(body, 0)
	if !ok || epoch < firstEpoch || epoch > lastEpoch {
		return header{}, false
	}
	return header{epoch: int(epoch), snapshot: body[from:], end: end}, true
}

// readRecords reads the records that stand one behind the other from a place on, and tells the place behind the last.
func readRecords(file []byte, at int) ([][]byte, int) {
	var records [][]byte
	for {
		record, next, ok := marked(file, at, recordMark)
		if !ok {
			return records, at
		}
		records = append(records, record)
		at = next
	}
}

// marked reads the frame at a place whose payload begins with the mark: what stands behind the mark, and the place behind the frame.
func marked(file []byte, at int, mark byte) ([]byte, int, bool) {
	payload, next, _ := frame.Decode(file, at)
	if len(payload) == 0 || payload[0] != mark {
		return nil, 0, false
	}
	return payload[1:], next, true
}
