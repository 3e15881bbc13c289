package frame_test

import (
	"bytes"
	"fmt"
	"math/rand"
	"testing"

	"arrears/api"
	"arrears/frame"
)

// ahead is what Scan has to answer of the frames of payloads that are cut off at a place.
func ahead(payloads [][]byte, cut int) string {
	end, whole := 0, 0
	for whole < len(payloads) && end+len(payloads[whole])+8 <= cut {
		end += len(payloads[whole]) + 8
		whole++
	}
	tail := api.TailShort
	if end == cut {
		tail = api.TailNone
	}
	return fmt.Sprintf("%q %d %d", payloads[:whole], end, tail)
}

// torn cuts the frames of payloads at every place.
func torn(t *testing.T, payloads [][]byte) {
	t.Helper()
	file, ok := frame.Join(payloads)
	if !ok {
		t.Fatalf("6.6: Join(%q) is refused", payloads)
	}
	for cut := range len(file) + 1 {
		want := ahead(payloads, cut)
		// What was cut off lies behind the one, and not behind the other.
		for _, left := range [][]byte{file[:cut], bytes.Clone(file[:cut])} {
			if got := toldScan(left); got != want {
				t.Fatalf("6.8: %q cut at %d: Scan = %s, want %s", payloads, cut, got, want)
			}
		}
	}
}

// 6.8
func TestTorn(t *testing.T) {
	torn(t, nil)
	torn(t, [][]byte{nil})
	torn(t, [][]byte{nil, nil, nil})
	torn(t, [][]byte{[]byte("one"), nil, []byte("three")})
	torn(t, [][]byte{joined("a frame", "", "in a frame"), []byte("last")})
	torn(t, [][]byte{make([]byte, 30), bytes.Repeat([]byte{0xff}, 30)})
	random := rand.New(rand.NewSource(68))
	for range 100 {
		payloads := make([][]byte, random.Intn(6))
		for i := range payloads {
			payloads[i] = drawn(random, 30)
		}
		torn(t, payloads)
	}
}

// 6.8: a frame of the longest payload, cut at its edges.
func TestTornLongest(t *testing.T) {
	file, _ := frame.Join([][]byte{[]byte("a"), mixed(api.MaxPayload)})
	for _, behind := range []int{0, 1, 3, 4, 5, 1000, api.MaxPayload + 3, api.MaxPayload + 4, api.MaxPayload + 7} {
		tail := api.TailShort
		if behind == 0 {
			tail = api.TailNone
		}
		want := fmt.Sprintf("%q %d %d", []string{"a"}, len(letterA), tail)
		if got := toldScan(file[:len(letterA)+behind]); got != want {
			t.Errorf("6.8: cut %d bytes into the frame: %s, want %s", behind, got, want)
		}
	}
}

// turned is the bytes with bits turned: those of the pattern, from a bit of theirs on.
func turned(b []byte, from int, pattern uint32) []byte {
	out := bytes.Clone(b)
	for i := range 32 {
		if at := from + i; pattern>>i&1 == 1 && at < 8*len(out) {
			out[at/8] ^= 1 << (at % 8)
		}
	}
	return out
}

// spoilt asks that no frame is found where bits of one were turned, with a whole frame ahead and one behind.
func spoilt(t *testing.T, payload []byte, from int, pattern uint32) {
	t.Helper()
	bad := turned(framed(payload), from, pattern)
	if got, want := toldDecode(bad, 0), fmt.Sprintf(`"" 0 %d`, api.TailSum); got != want {
		t.Fatalf("6.9: %q with %08x turned from bit %d: Decode = %s, want %s", payload, pattern, from, got, want)
	}
	file := bytes.Join([][]byte{[]byte(letterA), bad, []byte(letterA)}, nil)
	if got, want := toldDecode(file, 9), fmt.Sprintf(`"" 9 %d`, api.TailSum); got != want {
		t.Fatalf("6.9: %q with %08x turned from bit %d: Decode at 9 = %s, want %s", payload, pattern, from, got, want)
	}
	if got, want := toldScan(file), fmt.Sprintf(`["a"] 9 %d`, api.TailSum); got != want {
		t.Fatalf("6.9: %q with %08x turned from bit %d: Scan = %s, want %s", payload, pattern, from, got, want)
	}
}

// 6.9: one bit, two bits, and all of a row of them, at every place behind the length.
func TestSpoiltFewBits(t *testing.T) {
	for _, payload := range [][]byte{nil, []byte("a"), []byte("payload"), make([]byte, 9), bytes.Repeat([]byte{0xff}, 9)} {
		for from := 32; from < 8*(len(payload)+8); from++ {
			spoilt(t, payload, from, 1)
			spoilt(t, payload, from, 1<<32-1)
			for apart := 1; apart < 32; apart++ {
				spoilt(t, payload, from, 1|1<<apart)
				spoilt(t, payload, from, 1<<(apart+1)-1)
			}
		}
	}
}

// 6.9: any bits within 32 in a row; among them the polynomial's, from either end, as far as they fit.
func TestSpoiltManyBits(t *testing.T) {
	random := rand.New(rand.NewSource(69))
	for range 20000 {
		payload := drawn(random, 40)
		from := 32 + random.Intn(8*(len(payload)+4))
		spoilt(t, payload, from, random.Uint32()|1)
		spoilt(t, payload, from, polynomial|1)
		spoilt(t, payload, from, 0x04C11DB7)
	}
}

// 6.9: in a frame of the longest payload.
func TestSpoiltLongest(t *testing.T) {
	file := framed(mixed(api.MaxPayload))
	for _, from := range []int{32, 33, 8 * 1000, 8*(4+api.MaxPayload) - 16, 8 * (4 + api.MaxPayload), 8*len(file) - 1} {
		for _, pattern := range []uint32{1, 0x8000ffff} {
			if got, want := toldDecode(turned(file, from, pattern), 0), fmt.Sprintf(`"" 0 %d`, api.TailSum); got != want {
				t.Errorf("6.9: %08x turned from bit %d: Decode = %.40s, want %s", pattern, from, got, want)
			}
		}
	}
}
