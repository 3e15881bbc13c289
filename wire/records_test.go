package wire_test

import (
	"bytes"
	"encoding/binary"
	"math"
	"math/rand"
	"reflect"
	"testing"

	"arrears/api"
	"arrears/wire"
)

// tell tells all fields of a value as 4.8 asks, in the order in which package api declares them.
func tell(v reflect.Value) []byte {
	var out []byte
	switch v.Kind() {
	case reflect.Int, reflect.Int64:
		out = binary.AppendVarint(nil, v.Int())
	case reflect.Bool:
		if v.Bool() {
			return []byte{1}
		}
		return []byte{0}
	case reflect.String:
		return append(binary.AppendUvarint(nil, uint64(v.Len())), v.String()...)
	case reflect.Slice, reflect.Array:
		if v.Kind() == reflect.Slice {
			out = binary.AppendUvarint(nil, uint64(v.Len()))
		}
		for i := range v.Len() {
			out = append(out, tell(v.Index(i))...)
		}
	case reflect.Struct:
		for i := range v.NumField() {
			out = append(out, tell(v.Field(i))...)
		}
	default:
		panic("no telling for " + v.Kind().String())
	}
	return out
}

// told tells all fields of a value: two values of a type are alike just if these bytes are.
func told(x any) []byte { return tell(reflect.ValueOf(x)) }

func alike(x, y any) bool { return bytes.Equal(told(x), told(y)) }

func isZero[T any](x T) bool {
	var none T
	return alike(x, none)
}

// fill lays a value of its own into every field: small numbers, edges or any.
func fill(random *rand.Rand, v reflect.Value) {
	switch v.Kind() {
	case reflect.Int, reflect.Int64:
		v.SetInt(anyNumber(random))
	case reflect.Bool:
		v.SetBool(random.Intn(2) == 1)
	case reflect.String:
		text := make([]byte, random.Intn(5))
		random.Read(text)
		v.SetString(string(text))
	case reflect.Slice:
		v.Set(reflect.MakeSlice(v.Type(), random.Intn(4), 4))
		for i := range v.Len() {
			fill(random, v.Index(i))
		}
	case reflect.Array:
		for i := range v.Len() {
			fill(random, v.Index(i))
		}
	case reflect.Struct:
		for i := range v.NumField() {
			fill(random, v.Field(i))
		}
	}
}

func anyNumber(random *rand.Rand) int64 {
	switch edges := edgeInts(); random.Intn(3) {
	case 0:
		return int64(random.Intn(200) - 100)
	case 1:
		return edges[random.Intn(len(edges))]
	}
	return int64(random.Uint64()) >> random.Intn(64)
}

func filled[T any](seed int64) T {
	var x T
	fill(rand.New(rand.NewSource(seed)), reflect.ValueOf(&x).Elem())
	return x
}

func samples[T any](n int) []T {
	list := make([]T, 1, n+1) // the first has no field that is not 0
	for k := range n {
		list = append(list, filled[T](int64(k)))
	}
	return list
}

// uses are the names of the fields that each kind tells behind itself: the document's table.
var uses = map[int][]string{
	1:  {"Loan", "Amount", "Rate", "Count", "Days"},
	2:  {"Loan", "Amount", "Count"},
	3:  {"Loan"},
	4:  {"Loan", "Amount"},
	5:  {"Loan", "Amount"},
	6:  {"Loan", "Amount", "Days"},
	7:  {"Loan", "Rate", "Count"},
	8:  {"Days"},
	9:  {"Days"},
	10: {"Text"},
	11: {},
	12: {"Count", "Days"},
	13: {},
	14: {},
	15: {"Loan"},
	16: {"Loan"},
	17: {},
	18: {},
	19: {},
	20: {},
	21: {},
}

var otherKinds = []int{0, -1, -2, 22, 23, 64, 130, 255, 256, 257, 277, 1 << 32, 1<<32 + 2, math.MinInt, math.MaxInt}

// tellOp is the telling of an operation of the table, and what is told of it.
func tellOp(o api.Op) ([]byte, api.Op) {
	part := api.Op{Kind: o.Kind}
	out := told(o.Kind)
	for _, name := range uses[o.Kind] {
		field := reflect.ValueOf(o).FieldByName(name)
		reflect.ValueOf(&part).Elem().FieldByName(name).Set(field)
		out = append(out, tell(field)...)
	}
	return out, part
}

// allOps are operations of every kind of the table.
func allOps() []api.Op {
	var list []api.Op
	for kind := 1; kind <= 21; kind++ {
		for _, o := range append(samples[api.Op](12), api.Op{Loan: 7, Amount: 500, Rate: 1200, Count: 12, Days: 3, Text: "dlp"}) {
			o.Kind = kind
			list = append(list, o)
		}
	}
	return list
}

// 4.9
func TestOps(t *testing.T) {
	for _, o := range allOps() {
		want, part := tellOp(o)
		if got := wire.EncodeOp(o); !bytes.Equal(got, want) {
			t.Fatalf("4.9: EncodeOp(%+v) = %x, want %x", o, got, want)
		}
		if got, ok := wire.DecodeOp(want); got != part || !ok {
			t.Fatalf("4.9: DecodeOp(%x) = %+v, %v, want %+v", want, got, ok, part)
		}
	}
	for _, c := range []struct {
		o api.Op
		b string
	}{
		{api.Op{Kind: api.OpPay, Loan: 7, Amount: 500}, "\x04\x0e\xe8\x07\x00"},
		{api.Op{Kind: api.OpToday}, "\x2a"},
		{api.Op{Kind: 22}, ""},
	} {
		if got := wire.EncodeOp(c.o); string(got) != c.b {
			t.Errorf("4.9: EncodeOp(%+v) = %x, want %x", c.o, got, c.b)
		}
	}
}

// 4.9: kinds that are not in the table.
func TestOtherKinds(t *testing.T) {
	for _, kind := range otherKinds {
		o := api.Op{Kind: kind, Loan: 1, Amount: 2, Rate: 3, Count: 4, Days: 5, Text: "d"}
		if got := wire.EncodeOp(o); len(got) != 0 {
			t.Errorf("4.9: EncodeOp of kind %d = %x, want no bytes", kind, got)
		}
		b := wire.PutInt(int64(kind))
		for range 7 {
			if got, ok := wire.DecodeOp(b); ok || got != (api.Op{}) {
				t.Errorf("4.9: DecodeOp(%x) = %+v, %v, want it refused", b, got, ok)
			}
			b = append(b, 0)
		}
	}
}

// allRecords are records that have a telling.
func allRecords() []api.Record {
	var list []api.Record
	for _, o := range allOps() {
		list = append(list, api.Record{Kind: api.RecordOp, Op: o, Acked: []int{4}})
	}
	for _, r := range append(samples[api.Record](30), api.Record{Acked: make([]int, 200)}) {
		r.Kind = api.RecordAcks
		list = append(list, r)
	}
	return list
}

// tellRecord is the telling of a record, and what is told of it.
func tellRecord(r api.Record) ([]byte, api.Record) {
	if r.Kind == 1 {
		b, op := tellOp(r.Op)
		return append([]byte{1}, b...), api.Record{Kind: 1, Op: op}
	}
	return append([]byte{2}, told(r.Acked)...), api.Record{Kind: 2, Acked: r.Acked}
}

// 4.10
func TestRecords(t *testing.T) {
	for _, r := range allRecords() {
		want, part := tellRecord(r)
		if got := wire.EncodeRecord(r); !bytes.Equal(got, want) {
			t.Fatalf("4.10: EncodeRecord(%+v) = %x, want %x", r, got, want)
		}
		if got, ok := wire.DecodeRecord(want); !alike(got, part) || !ok {
			t.Fatalf("4.10: DecodeRecord(%x) = %+v, %v, want %+v", want, got, ok, part)
		}
	}
	pay := api.Op{Kind: api.OpPay, Loan: 7, Amount: 500}
	if got := wire.EncodeRecord(api.Record{Kind: 1, Op: pay}); string(got) != "\x01\x04\x0e\xe8\x07\x00" {
		t.Errorf("4.10: EncodeRecord of a pay = %x", got)
	}
	if got := wire.EncodeRecord(api.Record{Kind: 2, Acked: []int{1, 2}}); string(got) != "\x02\x02\x02\x04" {
		t.Errorf("4.10: EncodeRecord of two acknowledgements = %x", got)
	}
}

// 4.10: records without a telling, and bytes that are none.
func TestNoRecords(t *testing.T) {
	pay := api.Op{Kind: api.OpPay, Loan: 7, Amount: 500}
	for _, kind := range []int{0, -1, 3, 4, 255, 256, 257, 258, 1<<32 + 1, 1<<32 + 2, math.MinInt, math.MaxInt} {
		if got := wire.EncodeRecord(api.Record{Kind: kind, Op: pay, Acked: []int{1}}); len(got) != 0 {
			t.Errorf("4.10: EncodeRecord of kind %d = %x, want no bytes", kind, got)
		}
	}
	for _, kind := range otherKinds {
		if got := wire.EncodeRecord(api.Record{Kind: 1, Op: api.Op{Kind: kind}, Acked: []int{1}}); len(got) != 0 {
			t.Errorf("4.10: EncodeRecord of an operation of kind %d = %x, want no bytes", kind, got)
		}
		if got, ok := wire.DecodeRecord(append([]byte{1}, wire.PutInt(int64(kind))...)); ok || !isZero(got) {
			t.Errorf("4.10: DecodeRecord of an operation of kind %d = %+v, %v, want it refused", kind, got, ok)
		}
	}
	for first := range 256 {
		for _, rest := range []string{"", "\x00", "\x2a", "\x04\x0e\xe8\x07\x00", "\x02\x02\x04"} {
			b := append([]byte{byte(first)}, rest...)
			got, ok := wire.DecodeRecord(b)
			if want := first == 1 && len(rest) > 0 && rest[0] != 0 && rest[0] != 2 || first == 2 && (rest == "\x00" || rest == "\x02\x02\x04"); ok != want || !ok && !isZero(got) {
				t.Errorf("4.10: DecodeRecord(%x) = %+v, %v, want %v", b, got, ok, want)
			}
		}
	}
}

// tellNotice is the telling of a notice as it is sent.
func tellNotice(n api.Notice) []byte {
	b := told(n)
	return b[:len(b)-1]
}

// 4.11
func TestNotices(t *testing.T) {
	for _, n := range samples[api.Notice](200) {
		sent := n
		sent.Acked = false
		for _, n.Acked = range []bool{true, false} {
			if got := wire.EncodeNotice(n); !bytes.Equal(got, tellNotice(n)) {
				t.Fatalf("4.11: EncodeNotice(%+v) = %x, want %x", n, got, tellNotice(n))
			}
		}
		if got, ok := wire.DecodeNotice(tellNotice(n)); got != sent || !ok {
			t.Fatalf("4.11: DecodeNotice(%x) = %+v, %v, want %+v", tellNotice(n), got, ok, sent)
		}
		for _, acked := range []byte{0, 1} {
			b := append(tellNotice(n), acked)
			if got, ok := wire.DecodeNotice(b); ok || got != (api.Notice{}) {
				t.Fatalf("4.13: DecodeNotice(%x) = %+v, %v, want it refused", b, got, ok)
			}
		}
	}
	n := api.Notice{ID: 1, Loan: 7, Kind: 2, Day: 730000, Amount: 500, Acked: true}
	if got := wire.EncodeNotice(n); string(got) != "\x02\x0e\x04\xa0\x8e\x59\xe8\x07" {
		t.Errorf("4.11: EncodeNotice(%+v) = %x", n, got)
	}
}

// 4.8, 4.12: all fields, whatever they hold.
func TestLoans(t *testing.T) {
	list := samples[api.Loan](300)
	list = append(list, api.Loan{ID: 7, Plan: make([]api.Instalment, 120)})
	for _, l := range list {
		if got := wire.EncodeLoan(l); !bytes.Equal(got, told(l)) {
			t.Fatalf("4.12: EncodeLoan(%+v) = %x, want %x", l, got, told(l))
		}
		if got, ok := wire.DecodeLoan(told(l)); !alike(got, l) || !ok {
			t.Fatalf("4.12: DecodeLoan(%x) = %+v, %v, want %+v", told(l), got, ok, l)
		}
	}
}

// 4.12
func TestStates(t *testing.T) {
	for _, s := range samples[api.State](300) {
		if got := wire.EncodeState(s); !bytes.Equal(got, told(s)) {
			t.Fatalf("4.12: EncodeState(%+v) = %x, want %x", s, got, told(s))
		}
		if got, ok := wire.DecodeState(told(s)); !alike(got, s) || !ok {
			t.Fatalf("4.12: DecodeState(%x) = %+v, %v, want %+v", told(s), got, ok, s)
		}
	}
	n := api.Notice{ID: 1, Loan: 7, Kind: 2, Day: 730000, Amount: 500, Acked: true}
	if got := wire.EncodeState(api.State{Today: 1, Notices: []api.Notice{n}}); string(got) != "\x02\x00\x01\x02\x0e\x04\xa0\x8e\x59\xe8\x07\x01" {
		t.Errorf("4.12: EncodeState of one notice = %x", got)
	}
}
