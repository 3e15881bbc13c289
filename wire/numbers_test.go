package wire_test

import (
	"bytes"
	"encoding/binary"
	"math"
	"math/big"
	"math/rand"
	"testing"

	"arrears/wire"
)

// most is the greatest number that has a telling.
var most = new(big.Int).SetUint64(math.MaxUint64)

// onPaper reads a telling by the document's words, in numbers without an end.
func onPaper(b []byte, at int) (uint64, int, bool) {
	if at < 0 || at > len(b) {
		return 0, 0, false
	}
	n := 0
	for ; at+n < len(b); n++ {
		if b[at+n] < 128 {
			break
		}
	}
	if at+n == len(b) || n+1 > 10 || n > 0 && b[at+n] == 0 {
		return 0, 0, false
	}
	x := new(big.Int)
	for i := n; i >= 0; i-- {
		x.Mul(x, big.NewInt(128))
		x.Add(x, big.NewInt(int64(b[at+i]%128)))
	}
	if x.Cmp(most) > 0 {
		return 0, 0, false
	}
	return x.Uint64(), at + n + 1, true
}

// edgeUints are the numbers at which a telling grows by a byte, and their neighbours.
func edgeUints() []uint64 {
	list := []uint64{0, 1, 2, 63, 64, 65, 300, 1 << 31, 1 << 32, 1<<63 - 1, 1 << 63, 1<<63 + 1, math.MaxUint64 - 1, math.MaxUint64}
	for k := 7; k < 64; k += 7 {
		list = append(list, 1<<k-2, 1<<k-1, 1<<k, 1<<k+1)
	}
	return list
}

// edgeInts are those of the numbers with a sign.
func edgeInts() []int64 {
	list := []int64{math.MinInt64, math.MinInt64 + 1, math.MaxInt64 - 1, math.MaxInt64}
	for _, u := range edgeUints() {
		list = append(list, int64(u>>1), -int64(u>>1), -int64(u>>1)-1)
	}
	return list
}

// 4.2
func TestPutUintExamples(t *testing.T) {
	for _, c := range []struct {
		x uint64
		b string
	}{
		{0, "\x00"},
		{127, "\x7f"},
		{128, "\x80\x01"},
		{300, "\xac\x02"},
		{math.MaxUint64, "\xff\xff\xff\xff\xff\xff\xff\xff\xff\x01"},
	} {
		if got := wire.PutUint(c.x); string(got) != c.b {
			t.Errorf("4.2: PutUint(%d) = %x, want %x", c.x, got, c.b)
		}
	}
}

// 4.2: the telling of a number, alone and with bytes ahead of it and behind it.
func checkUint(t *testing.T, x uint64) {
	t.Helper()
	told := wire.PutUint(x)
	if want := binary.AppendUvarint(nil, x); !bytes.Equal(told, want) {
		t.Fatalf("4.2: PutUint(%d) = %x, want %x", x, told, want)
	}
	for _, ahead := range []string{"", "\x00", "\x80\xff"} {
		for _, behind := range []string{"", "\x00", "\x01\x80", "\xff"} {
			b := []byte(ahead + string(told) + behind)
			got, next, ok := wire.Uint(b, len(ahead))
			if got != x || next != len(ahead)+len(told) || !ok {
				t.Fatalf("4.2: Uint(%x, %d) = %d, %d, %v, want %d", b, len(ahead), got, next, ok, x)
			}
		}
	}
	for k := range told {
		if got, next, ok := wire.Uint(told[:k], 0); got != 0 || next != 0 || ok {
			t.Fatalf("4.2: Uint(%x, 0) = %d, %d, %v, want it refused", told[:k], got, next, ok)
		}
	}
}

// 4.2: from one byte to ten.
func TestUintRoundTrip(t *testing.T) {
	lengths := map[int]int{}
	for _, x := range edgeUints() {
		checkUint(t, x)
		lengths[len(wire.PutUint(x))]++
	}
	for n := 1; n <= 10; n++ {
		if lengths[n] == 0 {
			t.Errorf("4.2: no telling of %d bytes was tried", n)
		}
	}
	for x := range uint64(70000) {
		checkUint(t, x)
	}
	random := rand.New(rand.NewSource(42))
	for range 20000 {
		checkUint(t, random.Uint64()>>random.Intn(64))
	}
}

// 4.2: what is no telling.
func TestUintRefuses(t *testing.T) {
	for _, c := range []struct {
		b  string
		at int
	}{
		{"", 0},
		{"\x80", 0},
		{"\x80\x00", 0},
		{"\xff\x00", 0},
		{"\x80\x80\x00", 0},
		{"\x80\x80\x80\x80\x80\x80\x80\x80\x80\x00", 0},
		{"\xff\xff\xff\xff\xff\xff\xff\xff\xff\x02", 0},
		{"\x80\x80\x80\x80\x80\x80\x80\x80\x80\x02", 0},
		{"\x80\x80\x80\x80\x80\x80\x80\x80\x80\x7f", 0},
		{"\xff\xff\xff\xff\xff\xff\xff\xff\xff\x80", 0},
		{"\xff\xff\xff\xff\xff\xff\xff\xff\xff\x81", 0},
		{"\xff\xff\xff\xff\xff\xff\xff\xff\xff\x80\x00", 0},
		{"\xff\xff\xff\xff\xff\xff\xff\xff\xff\x81\x00", 0},
		{"\x80\x80\x80\x80\x80\x80\x80\x80\x80\x80\x01", 0},
		{"\x80\x80\x80\x80\x80\x80\x80\x80\x80\x80\x80\x80\x01", 0},
		{"\x05\x07", 2},
		{"\x05\x07", 3},
		{"\x05\x07", -1},
		{"\x05\x07", math.MinInt},
		{"\x05\x07", math.MaxInt},
	} {
		if x, next, ok := wire.Uint([]byte(c.b), c.at); x != 0 || next != 0 || ok {
			t.Errorf("4.2: Uint(%x, %d) = %d, %d, %v, want it refused", c.b, c.at, x, next, ok)
		}
		if x, next, ok := wire.Int([]byte(c.b), c.at); x != 0 || next != 0 || ok {
			t.Errorf("4.3: Int(%x, %d) = %d, %d, %v, want it refused", c.b, c.at, x, next, ok)
		}
	}
	if x, next, ok := wire.Uint([]byte{5, 7}, 1); x != 7 || next != 2 || !ok {
		t.Errorf("4.2: Uint(05 07, 1) = %d, %d, %v, want 7, 2, true", x, next, ok)
	}
}

// 4.2, 4.3, 4.14: any bytes, at any place, are read as on paper, and what is read is told by the same bytes.
func checkAnyBytes(t *testing.T, b []byte, at int) {
	t.Helper()
	want, end, taken := onPaper(b, at)
	x, next, ok := wire.Uint(b, at)
	if x != want || next != end || ok != taken {
		t.Fatalf("4.2: Uint(%x, %d) = %d, %d, %v, want %d, %d, %v", b, at, x, next, ok, want, end, taken)
	}
	if ok && !bytes.Equal(wire.PutUint(x), b[at:next]) {
		t.Fatalf("4.14: PutUint(%d) = %x, but it was read from %x", x, wire.PutUint(x), b[at:next])
	}
	i, next, ok := wire.Int(b, at)
	if next != end || ok != taken || ok && !bytes.Equal(wire.PutInt(i), b[at:next]) || !ok && i != 0 {
		t.Fatalf("4.3: Int(%x, %d) = %d, %d, %v", b, at, i, next, ok)
	}
}

func TestUintAnyBytes(t *testing.T) {
	for a := range 256 {
		for b := range 256 {
			for at := -1; at <= 3; at++ {
				checkAnyBytes(t, []byte{byte(a), byte(b)}, at)
			}
		}
	}
	alphabet := []byte{0, 1, 2, 0x3f, 0x40, 0x7e, 0x7f, 0x80, 0x81, 0xfe, 0xff}
	for length := range 14 {
		for _, fill := range []byte{0x80, 0x81, 0xff} {
			b := append(bytes.Repeat([]byte{fill}, length), 0, 0, 0)
			for _, x := range alphabet {
				for _, y := range alphabet {
					for _, z := range alphabet {
						copy(b[length:], []byte{x, y, z})
						checkAnyBytes(t, b, 0)
						checkAnyBytes(t, b[:length+1], 0)
						checkAnyBytes(t, b[:length+2], length/2)
					}
				}
			}
		}
	}
}

// 4.3
func TestPutIntExamples(t *testing.T) {
	for _, c := range []struct {
		x int64
		b string
	}{
		{0, "\x00"},
		{-1, "\x01"},
		{1, "\x02"},
		{-64, "\x7f"},
		{64, "\x80\x01"},
		{math.MaxInt64, "\xfe\xff\xff\xff\xff\xff\xff\xff\xff\x01"},
		{math.MinInt64, "\xff\xff\xff\xff\xff\xff\xff\xff\xff\x01"},
	} {
		if got := wire.PutInt(c.x); string(got) != c.b {
			t.Errorf("4.3: PutInt(%d) = %x, want %x", c.x, got, c.b)
		}
	}
	if x, next, ok := wire.Int([]byte{0x80, 1}, 0); x != 64 || next != 2 || !ok {
		t.Errorf("4.3: Int(80 01, 0) = %d, %d, %v, want 64, 2, true", x, next, ok)
	}
}

func checkInt(t *testing.T, x int64) {
	t.Helper()
	told := wire.PutInt(x)
	double := new(big.Int).Mul(big.NewInt(x), big.NewInt(2))
	if x < 0 {
		double.Neg(double).Sub(double, big.NewInt(1))
	}
	if want := wire.PutUint(double.Uint64()); !bytes.Equal(told, want) {
		t.Fatalf("4.3: PutInt(%d) = %x, want %x", x, told, want)
	}
	b := append(append([]byte{9}, told...), 9)
	if got, next, ok := wire.Int(b, 1); got != x || next != 1+len(told) || !ok {
		t.Fatalf("4.3: Int(%x, 1) = %d, %d, %v, want %d", b, got, next, ok, x)
	}
	for k := range told {
		if got, next, ok := wire.Int(told[:k], 0); got != 0 || next != 0 || ok {
			t.Fatalf("4.3: Int(%x, 0) = %d, %d, %v, want it refused", told[:k], got, next, ok)
		}
	}
}

func TestIntRoundTrip(t *testing.T) {
	for _, x := range edgeInts() {
		checkInt(t, x)
	}
	for x := int64(-20000); x <= 20000; x++ {
		checkInt(t, x)
	}
	random := rand.New(rand.NewSource(43))
	for range 20000 {
		checkInt(t, int64(random.Uint64())>>random.Intn(64))
	}
}

// 4.4
func TestBool(t *testing.T) {
	if got := wire.PutBool(true); string(got) != "\x01" {
		t.Errorf("4.4: PutBool(true) = %x, want 01", got)
	}
	if got := wire.PutBool(false); string(got) != "\x00" {
		t.Errorf("4.4: PutBool(false) = %x, want 00", got)
	}
	for c := range 256 {
		b := []byte{1, byte(c), 1}
		x, next, ok := wire.Bool(b, 1)
		if c <= 1 && (x != (c == 1) || next != 2 || !ok) || c > 1 && (x || next != 0 || ok) {
			t.Errorf("4.4: Bool(%x, 1) = %v, %d, %v", b, x, next, ok)
		}
	}
	for _, at := range []int{math.MinInt, -1, 3, 4, math.MaxInt} {
		if x, next, ok := wire.Bool([]byte{1, 1, 1}, at); x || next != 0 || ok {
			t.Errorf("4.4: Bool(01 01 01, %d) = %v, %d, %v, want it refused", at, x, next, ok)
		}
	}
	if x, next, ok := wire.Bool(nil, 0); x || next != 0 || ok {
		t.Errorf("4.4: Bool(none, 0) = %v, %d, %v, want it refused", x, next, ok)
	}
}
