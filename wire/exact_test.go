package wire_test

import (
	"bytes"
	"math/rand"
	"slices"
	"testing"

	"arrears/api"
	"arrears/wire"
)

// form is a type of records with what tells and reads it, and tellings of some of them.
type form[T any] struct {
	name   string
	encode func(T) []byte
	decode func([]byte) (T, bool)
	tells  [][]byte
}

func tellings[T any](list []T, encode func(T) []byte) [][]byte {
	var out [][]byte
	for _, x := range list {
		out = append(out, encode(x))
	}
	return out
}

func opForm() form[api.Op] {
	return form[api.Op]{"Op", wire.EncodeOp, wire.DecodeOp, tellings(allOps(), wire.EncodeOp)}
}

func recordForm() form[api.Record] {
	return form[api.Record]{"Record", wire.EncodeRecord, wire.DecodeRecord, tellings(allRecords(), wire.EncodeRecord)}
}

func noticeForm() form[api.Notice] {
	return form[api.Notice]{"Notice", wire.EncodeNotice, wire.DecodeNotice, tellings(samples[api.Notice](20), wire.EncodeNotice)}
}

func loanForm() form[api.Loan] {
	return form[api.Loan]{"Loan", wire.EncodeLoan, wire.DecodeLoan, tellings(samples[api.Loan](10), wire.EncodeLoan)}
}

func stateForm() form[api.State] {
	return form[api.State]{"State", wire.EncodeState, wire.DecodeState, tellings(samples[api.State](10), wire.EncodeState)}
}

// refused asks for a refusal.
func (f form[T]) refused(t *testing.T, b []byte, why string) {
	t.Helper()
	if x, ok := f.decode(b); ok || !isZero(x) {
		t.Fatalf("4.13: Decode%s(%x) = %+v, %v, want it refused: %s", f.name, b, x, ok, why)
	}
}

// own asks that bytes are refused, or read as a value that is told by these very bytes.
func (f form[T]) own(t *testing.T, b []byte) {
	t.Helper()
	x, ok := f.decode(b)
	if ok && !bytes.Equal(f.encode(x), b) {
		t.Fatalf("4.14: Decode%s(%x) = %+v, which is told by %x", f.name, b, x, f.encode(x))
	}
	if !ok && !isZero(x) {
		t.Fatalf("4.13: Decode%s(%x) = %+v, false, want all fields 0", f.name, b, x)
	}
}

// changed hands on a telling with another byte, a byte more or a byte less, at every place.
func changed(b []byte, with func([]byte)) {
	for at := 0; at <= len(b); at++ {
		for _, c := range []byte{0, 1, 2, 0x7f, 0x80, 0x81, 0xff} {
			with(slices.Concat(b[:at], []byte{c}, b[at:]))
			if at < len(b) {
				with(slices.Concat(b[:at], []byte{c}, b[at+1:]))
			}
		}
		if at < len(b) {
			with(slices.Concat(b[:at], b[at+1:]))
		}
	}
}

func (f form[T]) check(t *testing.T) {
	t.Helper()
	for _, b := range f.tells {
		f.own(t, b)
		if _, ok := f.decode(b); !ok {
			t.Fatalf("4.13: Decode%s(%x) is refused", f.name, b)
		}
		for k := range b {
			f.refused(t, b[:k], "bytes are missing at the end")
		}
		for c := range 256 {
			f.refused(t, append(bytes.Clone(b), byte(c)), "a byte too many")
		}
		f.refused(t, append(bytes.Clone(b), b...), "two tellings")
		changed(b, func(other []byte) { f.own(t, other) })
	}
	for i, a := range f.tells {
		for _, b := range f.tells[i+1:] {
			if !bytes.Equal(a, b) && (bytes.HasPrefix(a, b) || bytes.HasPrefix(b, a)) {
				t.Fatalf("4.14: of the tellings %x and %x of a %s one is the beginning of the other", a, b, f.name)
			}
		}
	}
}

// 4.13, 4.14: a byte too many and one too few, at every place.
func TestExactOps(t *testing.T)     { opForm().check(t) }
func TestExactRecords(t *testing.T) { recordForm().check(t) }
func TestExactNotices(t *testing.T) { noticeForm().check(t) }
func TestExactLoans(t *testing.T)   { loanForm().check(t) }
func TestExactStates(t *testing.T)  { stateForm().check(t) }

// 4.14: of all bytes, up to three of them, those that are read are told again by the same, and none is another's beginning.
func TestExactShort(t *testing.T) {
	var taken [][]byte
	f := opForm()
	try := func(b []byte) {
		f.own(t, b)
		if _, ok := f.decode(b); ok {
			taken = append(taken, bytes.Clone(b))
		}
	}
	try(nil)
	for a := range 256 {
		try([]byte{byte(a)})
		for b := range 256 {
			try([]byte{byte(a), byte(b)})
			for _, c := range []byte{0, 1, 2, 'a', 0x7f, 0x80, 0xff} {
				try([]byte{byte(a), byte(b), c})
			}
		}
	}
	slices.SortFunc(taken, bytes.Compare)
	for i := 1; i < len(taken); i++ {
		if bytes.HasPrefix(taken[i], taken[i-1]) {
			t.Fatalf("4.14: %x is the beginning of %x", taken[i-1], taken[i])
		}
	}
	if len(taken) < 1000 {
		t.Fatalf("4.9: only %d of the short texts are read", len(taken))
	}
}

// 4.1, 4.13: bytes of any kind.
func TestAnyBytes(t *testing.T) {
	random := rand.New(rand.NewSource(44))
	ops, records, notices, loans, states := opForm(), recordForm(), noticeForm(), loanForm(), stateForm()
	for range 60000 {
		b := make([]byte, random.Intn(80))
		small := random.Intn(2) == 0
		for i := range b {
			b[i] = byte(random.Intn(256))
			if small {
				b[i] %= 3
			}
		}
		ops.own(t, b)
		records.own(t, b)
		notices.own(t, b)
		loans.own(t, b)
		states.own(t, b)
	}
}
