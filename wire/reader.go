package wire

import "arrears/api"

// reader goes over the fields of records. Once a field is refused all behind it are:
// so a record's fields are read one after the other, and only its end asks whether they were there.
type reader struct {
	b   []byte
	at  int
	bad bool
}

func (r *reader) seek(b []byte, at int) {
	r.b, r.at = b, at
}

// take reads a field where the reader stands, and goes on behind it.
func take[T any](r *reader, get func([]byte, int) (T, int, bool)) T {
	if r.bad {
		var none T
		return none
	}
	x, next, ok := get(r.b, r.at)
	r.at, r.bad = next, !ok
	return x
}

func takeList[T any](r *reader, get func([]byte, int) (T, int, bool)) []T {
	return take(r, func(b []byte, at int) ([]T, int, bool) {
		return List(b, at, get)
	})
}

func (r *reader) cents() int64 {
	return take(r, Int)
}

func (r *reader) number() int {
	return int(r.cents())
}

func (r *reader) truth() bool {
	return take(r, Bool)
}

// The methods from here to id have the form that List asks of what reads one element.

func (r *reader) op(b []byte, at int) (api.Op, int, bool) {
	r.seek(b, at)
	o := r.opFields()
	return o, r.at, !r.bad
}

func (r *reader) record(b []byte, at int) (api.Record, int, bool) {
	r.seek(b, at)
	var rec api.Record
	switch take(r, Uint) {
	case api.RecordOp:
		rec.Kind = api.RecordOp
		rec.Op = r.opFields()
	case api.RecordAcks:
		rec.Kind = api.RecordAcks
		rec.Acked = takeList(r, r.id)
	default:
		r.bad = true
	}
	return rec, r.at, !r.bad
}

func (r *reader) sent(b []byte, at int) (api.Notice, int, bool) {
	r.seek(b, at)
	n := r.noticeFields()
	return n, r.at, !r.bad
}

func (r *reader) owed(b []byte, at int) (api.Notice, int, bool) {
	r.seek(b, at)
	n := r.noticeFields()
	n.Acked = r.truth()
	return n, r.at, !r.bad
}

func (r *reader) loan(b []byte, at int) (api.Loan, int, bool) {
	r.seek(b, at)
	l := api.Loan{
		ID:         r.number(),
		Terms:      r.terms(),
		Plan:       takeList(r, r.instalment),
		Book:       r.book(),
		Case:       r.caseFields(),
		Day:        r.number(),
		Carry:      r.cents(),
		Applied:    r.cents(),
		Last:       r.parts(),
		HasLast:    r.truth(),
		ChargedOff: r.cents(),
		Trace:      r.number(),
	}
	return l, r.at, !r.bad
}

func (r *reader) state(b []byte, at int) (api.State, int, bool) {
	r.seek(b, at)
	s := api.State{
		Today:   r.number(),
		Loans:   takeList(r, r.loan),
		Notices: takeList(r, r.owed),
	}
	return s, r.at, !r.bad
}

func (r *reader) instalment(b []byte, at int) (api.Instalment, int, bool) {
	r.seek(b, at)
	i := api.Instalment{
		Due:       r.number(),
		Interest:  r.cents(),
		Principal: r.cents(),
		Marked:    r.truth(),
	}
	return i, r.at, !r.bad
}

func (r *reader) id(b []byte, at int) (int, int, bool) {
	r.seek(b, at)
	x := r.number()
	return x, r.at, !r.bad
}

func (r *reader) opFields() api.Op {
	o := api.Op{Kind: r.number()}
	used, ok := fieldsOf(o.Kind)
	if !ok {
		r.bad = true
	}
	if used&fieldLoan != 0 {
		o.Loan = r.number()
	}
	if used&fieldAmount != 0 {
		o.Amount = r.cents()
	}
	if used&fieldRate != 0 {
		o.Rate = r.cents()
	}
	if used&fieldCount != 0 {
		o.Count = r.number()
	}
	if used&fieldDays != 0 {
		o.Days = r.number()
	}
	if used&fieldText != 0 {
		o.Text = take(r, Text)
	}
	return o
}

func (r *reader) noticeFields() api.Notice {
	return api.Notice{
		ID:     r.number(),
		Loan:   r.number(),
		Kind:   r.number(),
		Day:    r.number(),
		Amount: r.cents(),
	}
}

func (r *reader) terms() api.Terms {
	return api.Terms{
		Kind:      r.number(),
		Principal: r.cents(),
		Rate:      r.cents(),
		Count:     r.number(),
		Start:     r.number(),
		Rule:      r.number(),
	}
}

func (r *reader) book() api.Book {
	var book api.Book
	for i := range book.Net {
		book.Net[i] = r.cents()
	}
	return book
}

func (r *reader) caseFields() api.Case {
	return api.Case{
		Status:        r.number(),
		Suspended:     r.truth(),
		Cycles:        r.number(),
		Since:         r.number(),
		Deadline:      r.number(),
		Promises:      r.number(),
		PromiseDue:    r.number(),
		PromiseAmount: r.cents(),
		PromiseGot:    r.cents(),
		Kept:          r.number(),
		Broken:        r.number(),
		Cures:         r.number(),
		Restructures:  r.number(),
		CycleFees:     r.cents(),
		LifeFees:      r.cents(),
	}
}

func (r *reader) parts() api.Parts {
	return api.Parts{
		Fees:      r.cents(),
		Interest:  r.cents(),
		Principal: r.cents(),
		Unapplied: r.cents(),
		Recovery:  r.cents(),
	}
}
