package frame_test

import (
	"bytes"
	"fmt"
	"math"
	"slices"
	"testing"

	"arrears/frame"
)

// guarded lays bytes into the midst of a longer memory, and hands out that memory too.
func guarded(b []byte) (inside, all []byte) {
	all = slices.Concat(bytes.Repeat([]byte{0xa5}, 8), b, bytes.Repeat([]byte{0xa5}, 64))
	return all[8 : 8+len(b)], all
}

// overwrite writes over bytes and their spare room.
func overwrite(b []byte, with byte) {
	b = b[:cap(b)]
	for i := range b {
		b[i] = with
	}
}

// someFiles is whole files, torn ones and spoilt ones.
func someFiles() [][]byte {
	whole := joined("one", "", "three", "a longer payload than the others have", "")
	spoilt := bytes.Clone(whole)
	spoilt[15+8] ^= 1
	long := append(joined("one"), 0xff, 0xff, 0xff, 0xff, 1, 2, 3, 4)
	return [][]byte{nil, {1}, whole, whole[:len(whole)-3], spoilt, long}
}

// readAll asks every call that reads.
func readAll(file []byte) {
	frame.Sum(file)
	frame.Extend(7, file)
	for at := -2; at <= len(file)+2; at++ {
		payload, _, _ := frame.Decode(file, at)
		overwrite(payload, 0xee)
	}
	frame.Decode(file, math.MinInt)
	frame.Decode(file, math.MaxInt)
	payloads, _, _ := frame.Scan(file)
	for _, payload := range payloads {
		overwrite(payload, 0xee)
	}
	for _, payload := range frame.All(file) {
		overwrite(payload, 0xee)
	}
}

// Bytes that are read stay, those ahead of them and behind them too, and so when the answers are written over.
func TestReadingLeavesBytes(t *testing.T) {
	for _, file := range someFiles() {
		inside, all := guarded(file)
		before := bytes.Clone(all)
		readAll(inside)
		if !bytes.Equal(all, before) {
			t.Errorf("6.1, 6.2, 6.4, 6.5, 6.7: reading % x changed the bytes that were handed in", file)
		}
	}
}

// What lies behind the bytes that are handed in is not read.
func TestReadingEndsAtTheEnd(t *testing.T) {
	for _, file := range someFiles() {
		for cut := range len(file) + 1 {
			agrees(t, file[:cut])
			inside, _ := guarded(file[:cut])
			agrees(t, inside)
		}
	}
}

// Payloads that are handed in stay, with what lies behind them, and so does their list.
func TestMakingLeavesBytes(t *testing.T) {
	one, all1 := guarded([]byte("one"))
	none, all2 := guarded(nil)
	three, all3 := guarded([]byte("three"))
	spare := []byte("spare")
	room := [][]byte{one, none, three, spare, spare}
	list := room[:3]
	var before [][]byte
	for _, b := range [][]byte{all1, all2, all3, spare} {
		before = append(before, bytes.Clone(b))
	}
	out, _ := frame.Join(list)
	overwrite(out, 0xee)
	for _, payload := range list {
		out, _ := frame.Encode(payload)
		overwrite(out, 0xee)
	}
	for i, b := range [][]byte{all1, all2, all3, spare} {
		if !bytes.Equal(b, before[i]) {
			t.Errorf("6.3, 6.6: bytes that were handed in changed to %q", b)
		}
	}
	if got, want := fmt.Sprintf("%q", room), `["one" "" "three" "spare" "spare"]`; got != want {
		t.Errorf("6.6: the list that was handed in changed to %s", got)
	}
}

// Frames do not change with the payloads that they were made of.
func TestMakingKeepsNothing(t *testing.T) {
	one, two := []byte("one"), []byte("two")
	single, _ := frame.Encode(one)
	both, _ := frame.Join([][]byte{one, two})
	alone, _ := frame.Join([][]byte{one})
	overwrite(one, '#')
	overwrite(two, '#')
	if !bytes.Equal(single, joined("one")) || !bytes.Equal(alone, joined("one")) || !bytes.Equal(both, joined("one", "two")) {
		t.Errorf("6.3, 6.6: frames changed with their payloads: %q, %q, %q", single, alone, both)
	}
}

// Payloads do not change with the file from which they were read, and All tells the file that it was handed.
func TestReadingKeepsNothing(t *testing.T) {
	file, told := some()
	single, _, _ := frame.Decode(file, 0)
	payloads, _, _ := frame.Scan(file)
	frames := frame.All(file)
	var kept [][]byte
	for _, payload := range frames {
		kept = append(kept, payload)
	}
	overwrite(file, '#')
	if got, want := fmt.Sprintf("%q %q %q", single, payloads, kept), `"one" ["one" "" "three"] ["one" "" "three"]`; got != want {
		t.Errorf("6.4, 6.5, 6.7: payloads changed with their file to %s", got)
	}
	if got := first(frames, 0); !slices.Equal(got, told) {
		t.Errorf("6.7: All kept the file that was handed in: it tells %v, want %v", got, told)
	}
}

// What is answered is new memory at each call, its spare room too.
func TestAnswersAreNew(t *testing.T) {
	file := joined("one", "two")
	for name, call := range map[string]func() []byte{
		"Encode":         func() []byte { out, _ := frame.Encode([]byte("one")); return out },
		"Encode of none": func() []byte { out, _ := frame.Encode(nil); return out },
		"Join":           func() []byte { out, _ := frame.Join([][]byte{[]byte("one"), nil}); return out },
		"Join of one":    func() []byte { out, _ := frame.Join([][]byte{[]byte("one")}); return out },
		"Decode":         func() []byte { out, _, _ := frame.Decode(file, 11); return out },
		"Scan":           func() []byte { out, _, _ := frame.Scan(file); return out[1] },
	} {
		want := bytes.Clone(call())
		apart(t, name, [][]byte{call(), call()})
		if got := call(); !bytes.Equal(got, want) {
			t.Errorf("%s = %x, then %x", name, want, got)
		}
	}
}

// apart writes over each of some answers with its number, spare room too, and asks that no other is hit.
func apart(t *testing.T, what string, answers [][]byte) {
	t.Helper()
	for i, b := range answers {
		overwrite(b, byte(i))
	}
	for i, b := range answers {
		if slices.ContainsFunc(b, func(c byte) bool { return c != byte(i) }) {
			t.Errorf("%s: answer %d shares memory with another: % x", what, i, b)
		}
	}
}

// No two payloads of one answer share memory, and the list is none's but the caller's.
func TestPayloadsApart(t *testing.T) {
	file := joined("one", "", "three", "the fourth payload", "", "six", "seven")
	payloads, _, _ := frame.Scan(file)
	again, _, _ := frame.Scan(file)
	apart(t, "6.5", slices.Concat(payloads, again))

	frames := frame.All(file)
	var told [][]byte
	for range 2 {
		for _, payload := range frames {
			told = append(told, payload)
		}
	}
	apart(t, "6.7", told)

	one, _, _ := frame.Scan(file)
	other, _, _ := frame.Scan(file)
	grown := append(one, []byte("mine"))
	_ = append(other, []byte("yours"))
	other[0] = nil
	if string(grown[7]) != "mine" || string(one[0]) != "one" {
		t.Errorf("6.5: the lists of two answers share memory: %q", grown)
	}
}

// 6.7: a caller that writes over what it is told, and its spare room, is told the right payloads further on, and again.
func TestAllWrittenOver(t *testing.T) {
	file, told := some()
	frames := frame.All(file)
	for range 2 {
		var got []string
		for at, payload := range frames {
			got = append(got, fmt.Sprintf("%d:%q", at, payload))
			overwrite(payload, 0xff)
		}
		if fmt.Sprint(got) != fmt.Sprint(told) {
			t.Errorf("6.7: All tells %v, want %v", got, told)
		}
	}
}

// What a call answers hangs on its arguments alone: asked in between, other calls change nothing.
func TestNothingIsKept(t *testing.T) {
	files := someFiles()
	for _, file := range files {
		scan, all := toldScan(file), toldAll(file)
		sum := frame.Extend(5, file)
		for _, other := range files {
			readAll(other)
			frame.Encode(other)
			frame.Join([][]byte{other, other})
		}
		if toldScan(file) != scan || toldAll(file) != all || frame.Extend(5, file) != sum {
			t.Errorf("the answers for % x hang on other calls", file)
		}
	}
}
