package frame_test

import (
	"fmt"
	"testing"

	"arrears/api"
	"arrears/frame"
)

const (
	emptyFrame = "\x00\x00\x00\x00\x1c\xdf\x44\x21"
	letterA    = "\x01\x00\x00\x00\x61\x63\x8f\xf7\xc1"
)

func toldEncode(payload []byte) string {
	out, ok := frame.Encode(payload)
	return fmt.Sprintf("%q %v", out, ok)
}

// 6.1, 6.2: the chapter's examples of sums.
func TestSumExamples(t *testing.T) {
	for _, row := range []struct {
		call      string
		got, want uint32
	}{
		{"Sum of nothing", frame.Sum(nil), 0},
		{"Sum of no bytes", frame.Sum([]byte{}), 0},
		{`Sum("a")`, frame.Sum([]byte("a")), 0xE8B7BE43},
		{`Sum("123456789")`, frame.Sum([]byte("123456789")), 0xCBF43926},
		{`Extend(Sum("1234"), "56789")`, frame.Extend(frame.Sum([]byte("1234")), []byte("56789")), 0xCBF43926},
	} {
		if row.got != row.want {
			t.Errorf("6.1, 6.2: %s = %08x, want %08x", row.call, row.got, row.want)
		}
	}
}

// 6.3 to 6.6: the chapter's other examples.
func TestExamples(t *testing.T) {
	file := []byte(emptyFrame + emptyFrame)
	nothing := func(at, tail int) string { return fmt.Sprintf(`"" %d %d`, at, tail) }
	no := func(tail int) string { return fmt.Sprintf("[] 0 %d", tail) }
	for _, row := range []struct{ call, got, want string }{
		{"Encode of nothing", toldEncode(nil), fmt.Sprintf("%q true", emptyFrame)},
		{"Encode of no bytes", toldEncode([]byte{}), fmt.Sprintf("%q true", emptyFrame)},
		{`Encode("a")`, toldEncode([]byte("a")), fmt.Sprintf("%q true", letterA)},
		{"Scan of nothing", toldScan(nil), no(api.TailNone)},
		{"Scan of no bytes", toldScan([]byte{}), no(api.TailNone)},
		{"Scan of three bytes", toldScan([]byte{1, 2, 3}), no(api.TailShort)},
		{"Scan of ff ff ff ff", toldScan([]byte{0xff, 0xff, 0xff, 0xff}), no(api.TailLong)},
		{"Scan of 01 00 40 00", toldScan([]byte{1, 0, 0x40, 0}), no(api.TailLong)},
		{"Scan of 00 00 40 00", toldScan([]byte{0, 0, 0x40, 0}), no(api.TailShort)},
		{"Scan of eight bytes 0", toldScan(make([]byte, 8)), no(api.TailSum)},
		{"Decode at 8", toldDecode(file, 8), nothing(16, api.TailNone)},
		{"Decode at 16", toldDecode(file, 16), nothing(16, api.TailNone)},
		{"Decode at 17", toldDecode(file, 17), nothing(17, api.TailShort)},
		{"Decode at 1", toldDecode(file, 1), nothing(1, api.TailLong)},
	} {
		if row.got != row.want {
			t.Errorf("%s = %s, want %s", row.call, row.got, row.want)
		}
	}
}
