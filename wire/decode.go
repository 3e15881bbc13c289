package wire

import "arrears/api"

// DecodeOp reads an operation.
func DecodeOp(b []byte) (api.Op, bool) {
	var r reader
	return whole(b, r.op)
}

// DecodeRecord reads a record of the journal.
func DecodeRecord(b []byte) (api.Record, bool) {
	var r reader
	return whole(b, r.record)
}

// DecodeNotice reads a notice.
func DecodeNotice(b []byte) (api.Notice, bool) {
	var r reader
	return whole(b, r.sent)
}

// DecodeLoan reads a loan.
func DecodeLoan(b []byte) (api.Loan, bool) {
	var r reader
	return whole(b, r.loan)
}

// DecodeState reads a portfolio.
func DecodeState(b []byte) (api.State, bool) {
	var r reader
	return whole(b, r.state)
}

// whole reads the value whose telling b is: a byte behind it means that b is another thing.
func whole[T any](b []byte, get func([]byte, int) (T, int, bool)) (T, bool) {
	x, end, ok := get(b, 0)
	if !ok || end != len(b) {
		var none T
		return none, false
	}
	return x, true
}
