package frame_test

import (
	"bytes"
	"encoding/binary"
	"fmt"
	"math"
	"math/rand"
	"slices"
	"testing"

	"arrears/api"
	"arrears/frame"
)

// 6.3: length, payload and sum, and the way back.
func TestEncode(t *testing.T) {
	for size := range 600 {
		payload := mixed(size)
		out, ok := frame.Encode(payload)
		if !ok || !bytes.Equal(out, framed(payload)) {
			t.Fatalf("6.3: Encode(% x) = % x, %v, want % x", payload, out, ok, framed(payload))
		}
		back, next, tail := frame.Decode(out, 0)
		if !bytes.Equal(back, payload) || next != size+8 || tail != api.TailNone {
			t.Fatalf("6.4: Decode of the frame of % x = % x, %d, %d", payload, back, next, tail)
		}
	}
}

// 6.3, 6.4: the longest payload, and one that has a byte less.
func TestLongest(t *testing.T) {
	for _, size := range []int{api.MaxPayload - 1, api.MaxPayload} {
		payload := mixed(size)
		out, ok := frame.Encode(payload)
		if !ok || !bytes.Equal(out, framed(payload)) {
			t.Fatalf("6.3: Encode of %d bytes = %d bytes, %v, or others", size, len(out), ok)
		}
		back, next, tail := frame.Decode(out, 0)
		if !bytes.Equal(back, payload) || next != size+8 || tail != api.TailNone {
			t.Errorf("6.4: Decode of the frame of %d bytes = %d bytes, %d, %d, or others", size, len(back), next, tail)
		}
	}
}

// 6.5, 6.6: the longest payload among others.
func TestJoinLongest(t *testing.T) {
	payload := mixed(api.MaxPayload)
	file, ok := frame.Join([][]byte{nil, payload, []byte("a")})
	if !ok || !bytes.Equal(file, slices.Concat([]byte(emptyFrame), framed(payload), []byte(letterA))) {
		t.Fatalf("6.6: Join = %d bytes, %v, or others", len(file), ok)
	}
	payloads, end, tail := frame.Scan(file)
	if len(payloads) != 3 || end != len(file) || tail != api.TailNone {
		t.Fatalf("6.5: Scan = %d payloads, %d, %d", len(payloads), end, tail)
	}
	if len(payloads[0]) != 0 || !bytes.Equal(payloads[1], payload) || string(payloads[2]) != "a" {
		t.Error("6.5: Scan does not give the payloads back")
	}
}

// 6.3, 6.6: a payload that is too long, wherever it stands among others.
func TestTooLong(t *testing.T) {
	for _, size := range []int{api.MaxPayload + 1, api.MaxPayload + 2, 2*api.MaxPayload + 1} {
		long := make([]byte, size)
		if out, ok := frame.Encode(long); len(out) != 0 || ok {
			t.Errorf("6.3: Encode of %d bytes = %d bytes, %v", size, len(out), ok)
		}
		few := []byte("few")
		for _, payloads := range [][][]byte{{long}, {long, few}, {few, long}, {few, nil, long, few}, {long, long}} {
			if out, ok := frame.Join(payloads); len(out) != 0 || ok {
				t.Errorf("6.6: Join of %d payloads, one of %d bytes = %d bytes, %v", len(payloads), size, len(out), ok)
			}
		}
	}
}

// 6.4: a whole frame whose payload is too long is none, however right its sum is.
func TestDecodeTooLong(t *testing.T) {
	file := append(framed(make([]byte, api.MaxPayload+1)), letterA...)
	if got, want := toldDecode(file, 0), fmt.Sprintf(`"" 0 %d`, api.TailLong); got != want {
		t.Errorf("6.4: Decode = %s, want %s", got, want)
	}
	if got, want := toldScan(file), fmt.Sprintf(`[] 0 %d`, api.TailLong); got != want {
		t.Errorf("6.5: Scan = %s, want %s", got, want)
	}
}

// 6.4: lengths around MaxPayload, and those that a sum or another type of number might wrap.
func TestDecodeLengths(t *testing.T) {
	for _, row := range []struct {
		length uint32
		tail   int
	}{
		{0, api.TailSum},
		{1, api.TailShort},
		{api.MaxPayload - 1, api.TailShort},
		{api.MaxPayload, api.TailShort},
		{api.MaxPayload + 1, api.TailLong},
		{api.MaxPayload + 1<<16, api.TailLong},
		{1 << 24, api.TailLong},
		{math.MaxInt32 - 8, api.TailLong},
		{math.MaxInt32, api.TailLong},
		{math.MaxInt32 + 1, api.TailLong},
		{math.MaxUint32 - 8, api.TailLong},
		{math.MaxUint32 - 7, api.TailLong},
		{math.MaxUint32, api.TailLong},
	} {
		file := append([]byte("ahead"), binary.LittleEndian.AppendUint32(nil, row.length)...)
		file = append(file, 9, 9, 9, 9)
		if got, want := toldDecode(file, 5), fmt.Sprintf(`"" 5 %d`, row.tail); got != want {
			t.Errorf("6.4: a length of %d: %s, want %s", row.length, got, want)
		}
	}
}

// 6.4: places that are none of the file's.
func TestDecodeOutside(t *testing.T) {
	for _, file := range [][]byte{nil, {}, {1, 2}, []byte(emptyFrame), []byte(letterA + emptyFrame)} {
		n := len(file)
		for _, at := range []int{-1, -2, -n, -n - 1, -8, math.MinInt, math.MinInt + 1, n + 1, n + 2, n + 8, math.MaxInt - 8, math.MaxInt - 1, math.MaxInt} {
			if at == 0 {
				continue
			}
			if got, want := toldDecode(file, at), fmt.Sprintf(`"" %d %d`, at, api.TailShort); got != want {
				t.Errorf("6.4: Decode(% x, %d) = %s, want %s", file, at, got, want)
			}
		}
		if got, want := toldDecode(file, n), fmt.Sprintf(`"" %d %d`, n, api.TailNone); got != want {
			t.Errorf("6.4: Decode(% x, %d) = %s, want %s", file, n, got, want)
		}
	}
}

// 6.4: a frame is found at its own place alone, a frame inside a payload too.
func TestDecodeInTheMiddle(t *testing.T) {
	file := joined("one", string(joined("inner")), "", "two")
	agrees(t, file)
	for _, row := range []struct {
		at   int
		want string
	}{
		{0, `"one" 11 0`},
		{15, `"inner" 28 0`},
		{32, `"" 40 0`},
		{40, `"two" 51 0`},
		{51, `"" 51 0`},
		{4, fmt.Sprintf(`"" 4 %d`, api.TailLong)},
		{50, fmt.Sprintf(`"" 50 %d`, api.TailShort)},
	} {
		if got := toldDecode(file, row.at); got != row.want {
			t.Errorf("6.4: Decode at %d = %s, want %s", row.at, got, row.want)
		}
	}
}

// 6.4: a file that ends within the length, the payload or the sum, with whole frames ahead.
func TestDecodeCutOff(t *testing.T) {
	ahead, last := joined("ahead"), joined("payload")
	for k := range last {
		file := append(bytes.Clone(ahead), last[:k]...)
		tail := api.TailShort
		if k == 0 {
			tail = api.TailNone
		}
		if got, want := toldDecode(file, len(ahead)), fmt.Sprintf(`"" %d %d`, len(ahead), tail); got != want {
			t.Errorf("6.4: Decode with %d bytes left = %s, want %s", k, got, want)
		}
	}
}

// 6.4: the sum is of the length and the payload, its lowest byte first: no other is taken.
func TestDecodeWrongSum(t *testing.T) {
	payload := []byte("payload")
	begun := framed(payload)[:4+len(payload)]
	right := registered(0, begun)
	for _, sum := range []uint32{0, ^right, right + 1, registered(0, payload), registered(right, payload), uint32(len(payload))} {
		file := binary.LittleEndian.AppendUint32(bytes.Clone(begun), sum)
		if got, want := toldDecode(file, 0), fmt.Sprintf(`"" 0 %d`, api.TailSum); got != want {
			t.Errorf("6.4: Decode with the sum %08x = %s, want %s", sum, got, want)
		}
	}
	turned := binary.BigEndian.AppendUint32(bytes.Clone(begun), right)
	if got, want := toldDecode(turned, 0), fmt.Sprintf(`"" 0 %d`, api.TailSum); got != want {
		t.Errorf("6.4: Decode with the sum's highest byte first = %s, want %s", got, want)
	}
}

// 6.5: what Scan tells behind whole frames, each of the four.
func TestScanTails(t *testing.T) {
	ahead := letterA + emptyFrame + letterA
	for _, row := range []struct {
		behind string
		tail   int
	}{
		{"", api.TailNone},
		{"\x00", api.TailShort},
		{"\xff\xff\xff", api.TailShort},
		{"\xff\xff\xff\xff", api.TailLong},
		{"\x00\x00\x00\x00", api.TailShort},
		{"\x00\x00\x00\x00\x1c\xdf\x44", api.TailShort},
		{"\x00\x00\x00\x00\x1c\xdf\x44\x20", api.TailSum},
		{"\x00\x00\x00\x00\x1c\xdf\x44\x20" + letterA, api.TailSum},
		{"\x01\x00\x40\x00" + letterA, api.TailLong},
		{"\x01\x00\x00\x00\x62\x63\x8f\xf7\xc1" + emptyFrame, api.TailSum},
	} {
		want := fmt.Sprintf("%q %d %d", []string{"a", "", "a"}, len(ahead), row.tail)
		if got := toldScan([]byte(ahead + row.behind)); got != want {
			t.Errorf("6.5: Scan with %x behind = %s, want %s", row.behind, got, want)
		}
	}
}

// 6.6: the frames in their order, and Scan gives the payloads back.
func TestJoin(t *testing.T) {
	random := rand.New(rand.NewSource(65))
	for range 500 {
		payloads := make([][]byte, random.Intn(8))
		var want []byte
		for i := range payloads {
			payloads[i] = drawn(random, 50)
			want = append(want, framed(payloads[i])...)
		}
		file, ok := frame.Join(payloads)
		if !ok || !bytes.Equal(file, want) {
			t.Fatalf("6.6: Join(%q) = % x, %v, want % x", payloads, file, ok, want)
		}
		if got, want := toldScan(file), fmt.Sprintf("%q %d %d", payloads, len(file), api.TailNone); got != want {
			t.Fatalf("6.6: Scan of Join = %s, want %s", got, want)
		}
	}
}

// 6.6: nothing, nothing but empty payloads, and one memory twice.
func TestJoinEdges(t *testing.T) {
	same := []byte("same")
	for _, row := range []struct {
		payloads [][]byte
		want     string
	}{
		{nil, ""},
		{[][]byte{}, ""},
		{[][]byte{nil}, emptyFrame},
		{[][]byte{{}, nil}, emptyFrame + emptyFrame},
		{[][]byte{[]byte("a"), nil}, letterA + emptyFrame},
		{[][]byte{same, same}, string(joined("same", "same"))},
	} {
		if out, ok := frame.Join(row.payloads); string(out) != row.want || !ok {
			t.Errorf("6.6: Join(%q) = %x, %v, want %x, true", row.payloads, out, ok, row.want)
		}
	}
}
