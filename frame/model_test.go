package frame_test

import (
	"bytes"
	"encoding/binary"
	"fmt"
	"hash/crc32"
	"math/rand"
	"testing"

	"arrears/api"
	"arrears/frame"
)

const polynomial = 0xEDB88320

// registered is a sum as the chapter's words make it: bit by bit, from the sum of what lies ahead.
func registered(sum uint32, data []byte) uint32 {
	register := ^sum
	for _, b := range data {
		register ^= uint32(b)
		for range 8 {
			low := register & 1
			register >>= 1
			if low == 1 {
				register ^= polynomial
			}
		}
	}
	return ^register
}

// framed is a frame made by the library's own means, whatever its length.
func framed(payload []byte) []byte {
	out := binary.LittleEndian.AppendUint32(nil, uint32(len(payload)))
	out = append(out, payload...)
	return binary.LittleEndian.AppendUint32(out, crc32.ChecksumIEEE(out))
}

// joined is the frames of texts, one behind the other.
func joined(texts ...string) []byte {
	var out []byte
	for _, s := range texts {
		out = append(out, framed([]byte(s))...)
	}
	return out
}

// found is what the chapter says of a place: whether a frame is there, and its payload, or which tail.
func found(file []byte, at int) (payload []byte, is bool, tail int) {
	switch left := len(file) - at; {
	case left == 0:
		return nil, false, api.TailNone
	case at < 0 || left < 4:
		return nil, false, api.TailShort
	}
	n := int64(binary.LittleEndian.Uint32(file[at:]))
	switch {
	case n > 4194304:
		return nil, false, api.TailLong
	case int64(len(file)-at) < n+8:
		return nil, false, api.TailShort
	}
	payload = file[at+4 : at+4+int(n)]
	if !bytes.HasPrefix(file[at:], framed(payload)) {
		return nil, false, api.TailSum
	}
	return payload, true, api.TailNone
}

// decoded is what Decode has to answer, as a text.
func decoded(file []byte, at int) string {
	payload, is, tail := found(file, at)
	if !is {
		return fmt.Sprintf("%q %d %d", "", at, tail)
	}
	return fmt.Sprintf("%q %d %d", payload, at+len(payload)+8, api.TailNone)
}

// walked is what Scan and All have to tell, as two texts.
func walked(file []byte) (scan, all string) {
	var payloads []string
	for at := 0; ; {
		payload, is, tail := found(file, at)
		if !is {
			return fmt.Sprintf("%q %d %d", payloads, at, tail), all
		}
		payloads = append(payloads, string(payload))
		all += fmt.Sprintf("%d:%q ", at, payload)
		at += len(payload) + 8
	}
}

func toldDecode(file []byte, at int) string {
	payload, next, tail := frame.Decode(file, at)
	return fmt.Sprintf("%q %d %d", payload, next, tail)
}

func toldScan(file []byte) string {
	payloads, end, tail := frame.Scan(file)
	return fmt.Sprintf("%q %d %d", payloads, end, tail)
}

func toldAll(file []byte) string {
	var out string
	for at, payload := range frame.All(file) {
		out += fmt.Sprintf("%d:%q ", at, payload)
	}
	return out
}

// agrees holds Decode at every place, Scan and All against the chapter's words.
func agrees(t *testing.T, file []byte) {
	t.Helper()
	for at := -2; at <= len(file)+2; at++ {
		if got, want := toldDecode(file, at), decoded(file, at); got != want {
			t.Fatalf("6.4: Decode(% x, %d) = %s, want %s", file, at, got, want)
		}
	}
	scan, all := walked(file)
	if got := toldScan(file); got != scan {
		t.Fatalf("6.5: Scan(% x) = %s, want %s", file, got, scan)
	}
	if got := toldAll(file); got != all {
		t.Fatalf("6.7: All(% x) tells %s, want %s", file, got, all)
	}
}

// mixed is any bytes, of one size always the same.
func mixed(size int) []byte {
	out := make([]byte, size)
	rand.New(rand.NewSource(int64(size))).Read(out)
	return out
}

// drawn is a payload of any bytes.
func drawn(random *rand.Rand, most int) []byte {
	out := make([]byte, random.Intn(most+1))
	random.Read(out)
	return out
}

// piece is a frame, or what might stand in its place.
func piece(random *rand.Rand) []byte {
	whole := framed(drawn(random, 12))
	switch random.Intn(8) {
	case 0:
		return whole[:random.Intn(len(whole))]
	case 1:
		whole[random.Intn(len(whole))] ^= byte(1 + random.Intn(255))
	case 2:
		return make([]byte, random.Intn(12))
	case 3:
		return bytes.Repeat([]byte{0xff}, random.Intn(8))
	case 4:
		return drawn(random, 12)
	}
	return whole
}

// 6.4, 6.5, 6.7: files of whole frames, of halves, of spoilt ones and of any bytes.
func TestAnyFile(t *testing.T) {
	random := rand.New(rand.NewSource(61))
	for range 4000 {
		var file []byte
		for range random.Intn(6) {
			file = append(file, piece(random)...)
		}
		agrees(t, file)
	}
}

// 6.4, 6.5: all files of up to four bytes that few different bytes make.
func TestShortFiles(t *testing.T) {
	files := [][]byte{nil}
	for k := 0; k < len(files); k++ {
		agrees(t, files[k])
		if len(files[k]) == 4 {
			continue
		}
		for _, c := range []byte{0, 1, 0x40, 0x7f, 0x80, 0xff} {
			files = append(files, append(bytes.Clone(files[k]), c))
		}
	}
}
