package wire_test

import (
	"bytes"
	"math"
	"slices"
	"strings"
	"testing"

	"arrears/wire"
)

// 4.5
func TestText(t *testing.T) {
	if got := wire.PutText("ab"); string(got) != "\x02ab" {
		t.Errorf("4.5: PutText(ab) = %x, want 02 61 62", got)
	}
	texts := []string{"", "a", "ab", "\x00", "\x80\xff", "\u00e9\u20ac", "\x01x\n"}
	for _, n := range []int{126, 127, 128, 129, 16383, 16384, 16385} {
		texts = append(texts, strings.Repeat("z", n))
	}
	for _, s := range texts {
		told := wire.PutText(s)
		if want := string(wire.PutUint(uint64(len(s)))) + s; string(told) != want {
			t.Fatalf("4.5: PutText of %d bytes = %.20x, want %.20x", len(s), told, want)
		}
		b := slices.Concat([]byte{0x80, 7}, told, []byte("next"))
		if got, next, ok := wire.Text(b, 2); got != s || next != 2+len(told) || !ok {
			t.Fatalf("4.5: Text of %d bytes = %.20q, %d, %v", len(s), got, next, ok)
		}
		for k := range told {
			if got, next, ok := wire.Text(told[:k], 0); got != "" || next != 0 || ok {
				t.Fatalf("4.5: Text of the first %d bytes of %d = %.20q, %d, %v, want it refused", k, len(told), got, next, ok)
			}
		}
	}
}

// tooLong are tellings of numbers that are above the bytes left behind them.
func tooLong() [][]byte {
	list := [][]byte{{1}, {3, 'a', 'b'}, {0x7f, 0}}
	for _, n := range []uint64{3, 1 << 31, 1 << 32, 1<<63 - 2, 1<<63 - 1, 1 << 63, 1<<63 + 1, math.MaxUint64 - 11, math.MaxUint64 - 1, math.MaxUint64} {
		list = append(list, append(wire.PutUint(n), 1, 0))
	}
	return list
}

// 4.5: a length above what is left, however great, a length that is none, and places that are none.
func TestTextRefuses(t *testing.T) {
	for _, b := range append(tooLong(), nil, []byte{0x80}, []byte{0x82, 0, 'a', 'b'}, bytes.Repeat([]byte{0x80}, 11)) {
		if got, next, ok := wire.Text(b, 0); got != "" || next != 0 || ok {
			t.Errorf("4.5: Text(%x, 0) = %q, %d, %v, want it refused", b, got, next, ok)
		}
	}
	for _, at := range []int{math.MinInt, -1, 3, 4, math.MaxInt} {
		if got, next, ok := wire.Text([]byte{0, 0, 0}, at); got != "" || next != 0 || ok {
			t.Errorf("4.5: Text(00 00 00, %d) = %q, %d, %v, want it refused", at, got, next, ok)
		}
	}
}

// 4.6
func TestPutList(t *testing.T) {
	if got := wire.PutInts([]int64{1, -1}); string(got) != "\x02\x02\x01" {
		t.Errorf("4.6: PutInts([1 -1]) = %x, want 02 02 01", got)
	}
	for _, none := range [][]int64{nil, {}} {
		if got := wire.PutInts(none); string(got) != "\x00" {
			t.Errorf("4.6: PutInts of none = %x, want 00", got)
		}
	}
	if got := wire.PutList([]string{"a", "", "bc"}, wire.PutText); string(got) != "\x03\x01a\x00\x02bc" {
		t.Errorf("4.6: PutList of three texts = %x", got)
	}
	nothing := func(bool) []byte { return nil }
	if got := wire.PutList([]bool{true, false}, nothing); string(got) != "\x02" {
		t.Errorf("4.6: PutList with a put that tells nothing = %x, want 02", got)
	}
	for _, n := range []int{127, 128, 300} {
		list := make([]int64, n)
		want := wire.PutUint(uint64(n))
		for i := range list {
			list[i] = int64(i*i - 1000)
			want = append(want, wire.PutInt(list[i])...)
		}
		if got := wire.PutInts(list); !bytes.Equal(got, want) {
			t.Errorf("4.6: PutInts of %d numbers = %x, want %x", n, got, want)
		}
	}
}

// 4.6: put is asked once for each element, in their order.
func TestPutListOrder(t *testing.T) {
	var asked []int
	wire.PutList([]int{5, 3, 5, 4}, func(x int) []byte {
		asked = append(asked, x)
		return []byte{byte(x)}
	})
	if !slices.Equal(asked, []int{5, 3, 5, 4}) {
		t.Errorf("4.6: put was asked for %v", asked)
	}
}

// 4.7
func TestInts(t *testing.T) {
	if list, next, ok := wire.Ints([]byte{0}, 0); len(list) != 0 || next != 1 || !ok {
		t.Errorf("4.7: Ints(00, 0) = %v, %d, %v, want none, 1, true", list, next, ok)
	}
	for _, list := range [][]int64{nil, {0}, {1, -1}, edgeInts(), make([]int64, 127), make([]int64, 128), make([]int64, 5000)} {
		told := wire.PutInts(list)
		b := slices.Concat([]byte{1, 0x80}, told, []byte{0, 5})
		if got, next, ok := wire.Ints(b, 2); !slices.Equal(got, list) || next != 2+len(told) || !ok {
			t.Errorf("4.7: Ints of %d numbers = %v, %d, %v", len(list), got, next, ok)
		}
		for k := range told {
			if got, next, ok := wire.Ints(told[:k], 0); len(got) != 0 || next != 0 || ok {
				t.Fatalf("4.7: Ints of the first %d bytes of %d = %v, %d, %v, want it refused", k, len(told), got, next, ok)
			}
		}
	}
}

// 4.7: a number of elements above what is left, however great, one that is none, an element that is none, places that are none.
func TestIntsRefuses(t *testing.T) {
	for _, b := range append(tooLong(), nil, []byte{3, 2, 2}, []byte{2, 2, 0x80}, []byte{2, 0x80, 0, 2}, []byte{0x81, 0, 2}, []byte{0x80}) {
		if list, next, ok := wire.Ints(b, 0); len(list) != 0 || next != 0 || ok {
			t.Errorf("4.7: Ints(%x, 0) = %v, %d, %v, want it refused", b, list, next, ok)
		}
	}
	for _, at := range []int{math.MinInt, -1, 3, 4, math.MaxInt} {
		if list, next, ok := wire.Ints([]byte{0, 0, 0}, at); len(list) != 0 || next != 0 || ok {
			t.Errorf("4.7: Ints(00 00 00, %d) = %v, %d, %v, want it refused", at, list, next, ok)
		}
	}
}

// asked is what a get that is handed to List was asked.
type asked struct {
	places []int
}

// steps reads the places of elements off a list: the k-th get answers the k-th of them, or refuses a place below -1000.
func (a *asked) steps(ends ...int) func([]byte, int) (string, int, bool) {
	return func(b []byte, at int) (string, int, bool) {
		k := len(a.places)
		a.places = append(a.places, at)
		if ends[k] < -1000 {
			return "refused", at + 1, false
		}
		return string(rune('a' + k)), ends[k], true
	}
}

// 4.7: where get is asked, and what is made of the places it tells.
func TestListGet(t *testing.T) {
	const refuses = -2000
	b := []byte{9, 3, 0, 0, 0, 0, 0, 0} // three elements, the first at place 2
	for _, c := range []struct {
		name   string
		ends   []int
		places []int
		next   int
	}{
		{"one byte each", []int{3, 4, 5}, []int{2, 3, 4}, 5},
		{"leaps", []int{4, 7, 8}, []int{2, 4, 7}, 8},
		{"refuses the first", []int{refuses}, []int{2}, 0},
		{"refuses the second", []int{5, refuses}, []int{2, 5}, 0},
		{"refuses the last", []int{3, 4, refuses}, []int{2, 3, 4}, 0},
		{"stays at the first", []int{2}, []int{2}, 0},
		{"stays at the last", []int{3, 4, 4}, []int{2, 3, 4}, 0},
		{"goes back by one", []int{5, 4}, []int{2, 5}, 0},
		{"goes back to the beginning", []int{3, 0}, []int{2, 3}, 0},
		{"goes below 0", []int{-1}, []int{2}, 0},
		{"goes beyond the end", []int{9}, []int{2}, 0},
		{"goes beyond the end at last", []int{3, 4, 9}, []int{2, 3, 4}, 0},
		{"goes far beyond the end", []int{math.MaxInt}, []int{2}, 0},
		{"is at the end too early", []int{8, 8}, []int{2, 8}, 0},
		{"is at the end, then goes beyond", []int{8, 9}, []int{2, 8}, 0},
	} {
		var a asked
		list, next, ok := wire.List(b, 1, a.steps(c.ends...))
		if !slices.Equal(a.places, c.places) {
			t.Errorf("4.7: a get that %s was asked at %v, want %v", c.name, a.places, c.places)
		}
		taken := c.next > 0
		if next != c.next || ok != taken || taken && !slices.Equal(list, []string{"a", "b", "c"}) || !taken && len(list) != 0 {
			t.Errorf("4.7: List with a get that %s = %v, %d, %v", c.name, list, next, ok)
		}
	}
}

// 4.7: get sees the bytes whole; without elements it is not asked.
func TestListHandsOn(t *testing.T) {
	b := []byte{7, 1, 5, 6}
	_, _, ok := wire.List(b, 1, func(seen []byte, at int) (byte, int, bool) {
		if !bytes.Equal(seen, b) || at != 2 {
			t.Errorf("4.7: get was asked in %x at %d, want it in %x at 2", seen, at, b)
		}
		return seen[at], at + 1, true
	})
	if !ok {
		t.Error("4.7: List of one byte is refused")
	}
	list, next, ok := wire.List([]byte{0, 5}, 0, func([]byte, int) (byte, int, bool) {
		t.Error("4.7: get was asked, though there is no element")
		return 0, 0, false
	})
	if len(list) != 0 || next != 1 || !ok {
		t.Errorf("4.7: List of no elements = %v, %d, %v, want none, 1, true", list, next, ok)
	}
}

// 4.6, 4.7: lists of lists.
func TestListOfLists(t *testing.T) {
	lists := [][]int64{{1, 2}, nil, {-1 << 63}, {}}
	told := wire.PutList(lists, wire.PutInts)
	if want := slices.Concat([]byte{4, 2, 2, 4, 0, 1}, wire.PutInt(-1<<63), []byte{0}); !bytes.Equal(told, want) {
		t.Errorf("4.6: PutList of lists = %x, want %x", told, want)
	}
	got, next, ok := wire.List(told, 0, wire.Ints)
	if next != len(told) || !ok || !slices.EqualFunc(got, lists, slices.Equal) {
		t.Errorf("4.7: List of lists = %v, %d, %v", got, next, ok)
	}
}
