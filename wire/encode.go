package wire

import (
	"slices"

	"arrears/api"
)

// EncodeOp tells an operation.
func EncodeOp(o api.Op) []byte {
	used, ok := fieldsOf(o.Kind)
	if !ok {
		return nil
	}
	out := putNumber(o.Kind)
	if used&fieldLoan != 0 {
		out = append(out, putNumber(o.Loan)...)
	}
	if used&fieldAmount != 0 {
		out = append(out, PutInt(o.Amount)...)
	}
	if used&fieldRate != 0 {
		out = append(out, PutInt(o.Rate)...)
	}
	if used&fieldCount != 0 {
		out = append(out, putNumber(o.Count)...)
	}
	if used&fieldDays != 0 {
		out = append(out, putNumber(o.Days)...)
	}
	if used&fieldText != 0 {
		out = append(out, PutText(o.Text)...)
	}
	return out
}

// EncodeRecord tells a record of the journal.
func EncodeRecord(r api.Record) []byte {
	switch r.Kind {
	case api.RecordOp:
		op := EncodeOp(r.Op)
		if len(op) == 0 {
			return nil
		}
		return slices.Concat(PutUint(api.RecordOp), op)
	case api.RecordAcks:
		return slices.Concat(PutUint(api.RecordAcks), PutList(r.Acked, putNumber))
	}
	return nil
}

// EncodeNotice tells a notice, as it is sent.
func EncodeNotice(n api.Notice) []byte {
	return putInts(int64(n.ID), int64(n.Loan), int64(n.Kind), int64(n.Day), n.Amount)
}

// EncodeLoan tells a loan whole.
func EncodeLoan(l api.Loan) []byte {
	return slices.Concat(
		putNumber(l.ID),
		putTerms(l.Terms),
		PutList(l.Plan, putInstalment),
		putInts(l.Book.Net[:]...),
		putCase(l.Case),
		putInts(int64(l.Day), l.Carry, l.Applied),
		putParts(l.Last),
		PutBool(l.HasLast),
		putInts(l.ChargedOff, int64(l.Trace)),
	)
}

// EncodeState tells a portfolio whole.
func EncodeState(s api.State) []byte {
	return slices.Concat(
		putNumber(s.Today),
		PutList(s.Loans, EncodeLoan),
		PutList(s.Notices, putOwed),
	)
}

func putNumber(x int) []byte {
	return PutInt(int64(x))
}

// putInts tells fields: how many they are is known, so it is not told.
func putInts(fields ...int64) []byte {
	var out []byte
	for _, x := range fields {
		out = append(out, PutInt(x)...)
	}
	return out
}

// putOwed tells a notice as the portfolio keeps it: whether it is acknowledged belongs to it.
func putOwed(n api.Notice) []byte {
	return slices.Concat(EncodeNotice(n), PutBool(n.Acked))
}

func putTerms(t api.Terms) []byte {
	return putInts(int64(t.Kind), t.Principal, t.Rate, int64(t.Count), int64(t.Start), int64(t.Rule))
}

func putInstalment(i api.Instalment) []byte {
	return slices.Concat(putInts(int64(i.Due), i.Interest, i.Principal), PutBool(i.Marked))
}

func putCase(c api.Case) []byte {
	return slices.Concat(
		putNumber(c.Status),
		PutBool(c.Suspended),
		putInts(
			int64(c.Cycles), int64(c.Since), int64(c.Deadline),
			int64(c.Promises), int64(c.PromiseDue), c.PromiseAmount, c.PromiseGot,
			int64(c.Kept), int64(c.Broken), int64(c.Cures), int64(c.Restructures),
			c.CycleFees, c.LifeFees,
		),
	)
}

func putParts(p api.Parts) []byte {
	return putInts(p.Fees, p.Interest, p.Principal, p.Unapplied, p.Recovery)
}
