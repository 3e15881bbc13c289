package frame_test

import (
	"bytes"
	"encoding/binary"
	"hash/crc32"
	"math"
	"math/rand"
	"testing"

	"arrears/frame"
)

// 6.1: the sum as the chapter's words make it, and as the standards' own means do.
func TestSum(t *testing.T) {
	for size := range 300 {
		for _, b := range [][]byte{mixed(size), make([]byte, size), bytes.Repeat([]byte{0xff}, size)} {
			got := frame.Sum(b)
			if got != registered(0, b) || got != crc32.ChecksumIEEE(b) {
				t.Fatalf("6.1: Sum(% x) = %08x, want %08x", b, got, registered(0, b))
			}
		}
	}
}

// 6.1: every single byte, and every pair of them.
func TestSumOfFewBytes(t *testing.T) {
	for a := range 256 {
		one := []byte{byte(a)}
		if got, want := frame.Sum(one), registered(0, one); got != want {
			t.Fatalf("6.1: Sum(% x) = %08x, want %08x", one, got, want)
		}
		for b := range 256 {
			two := []byte{byte(a), byte(b)}
			if got, want := frame.Sum(two), registered(0, two); got != want {
				t.Fatalf("6.1: Sum(% x) = %08x, want %08x", two, got, want)
			}
		}
	}
}

// 6.1: as many bytes as the longest frame has.
func TestSumOfManyBytes(t *testing.T) {
	data := mixed(1<<22 + 8)
	if got, want := frame.Sum(data), crc32.ChecksumIEEE(data); got != want {
		t.Errorf("6.1: Sum of %d bytes = %08x, want %08x", len(data), got, want)
	}
}

// 6.2: bytes that come in two pieces, wherever they are parted, and in three, and one by one.
func TestExtendInPieces(t *testing.T) {
	data := mixed(40)
	want := registered(0, data)
	var single uint32
	for i := range data {
		single = frame.Extend(single, data[i:i+1])
	}
	if single != want {
		t.Errorf("6.2: Extend byte by byte = %08x, want %08x", single, want)
	}
	for i := range len(data) + 1 {
		if got := frame.Extend(frame.Sum(data[:i]), data[i:]); got != want {
			t.Errorf("6.2: parted at %d: %08x, want %08x", i, got, want)
		}
		for k := i; k <= len(data); k++ {
			got := frame.Extend(frame.Extend(frame.Sum(data[:i]), data[i:k]), data[k:])
			if got != want {
				t.Errorf("6.2: parted at %d and %d: %08x, want %08x", i, k, got, want)
			}
		}
	}
}

// someSums is numbers that the test has reckoned from no bytes.
func someSums() []uint32 {
	out := []uint32{0, 1, 7, 0x7fffffff, 0x80000000, 0xdeadbeef, polynomial, math.MaxUint32 - 1, math.MaxUint32}
	for bit := range 32 {
		out = append(out, 1<<bit)
	}
	random := rand.New(rand.NewSource(63))
	for range 200 {
		out = append(out, random.Uint32())
	}
	return out
}

// 6.2: any number, by no bytes, by one and by several.
func TestExtendAnyNumber(t *testing.T) {
	several := mixed(9)
	for _, sum := range someSums() {
		for _, none := range [][]byte{nil, {}} {
			if got := frame.Extend(sum, none); got != sum {
				t.Errorf("6.2: Extend(%08x) by no bytes = %08x", sum, got)
			}
		}
		for c := range 256 {
			one := []byte{byte(c)}
			if got, want := frame.Extend(sum, one), registered(sum, one); got != want {
				t.Fatalf("6.2: Extend(%08x, %02x) = %08x, want %08x", sum, c, got, want)
			}
		}
		if got, want := frame.Extend(sum, several), registered(sum, several); got != want {
			t.Fatalf("6.2: Extend(%08x, % x) = %08x, want %08x", sum, several, got, want)
		}
	}
}

// summedTo is the four bytes of which a number is the sum: the register run back from it to the front.
func summedTo(sum uint32) []byte {
	register := ^sum
	for range 32 {
		if high := register >> 31; high == 1 {
			register = (register^polynomial)<<1 | 1
		} else {
			register <<= 1
		}
	}
	return binary.LittleEndian.AppendUint32(nil, ^register)
}

// 6.2: every number is the sum of some bytes, and Extend goes on from these.
func TestExtendFromItsBytes(t *testing.T) {
	data := mixed(11)
	for _, sum := range someSums() {
		ahead := summedTo(sum)
		if got := frame.Sum(ahead); got != sum {
			t.Fatalf("6.1: Sum(% x) = %08x, want %08x", ahead, got, sum)
		}
		if got, want := frame.Extend(sum, data), frame.Sum(append(ahead, data...)); got != want {
			t.Fatalf("6.2: Extend(%08x, % x) = %08x, want %08x", sum, data, got, want)
		}
	}
}
