package script_test

import (
	"bytes"
	"runtime"
	"slices"
	"strings"
	"sync"
	"testing"
	"weak"

	"arrears/api"
	"arrears/script"
)

// guarded lays bytes into the midst of a longer memory, and hands out that memory too.
func guarded(text string) (inside, all []byte) {
	all = slices.Concat(bytes.Repeat([]byte{0xa5}, 8), []byte(text), bytes.Repeat([]byte{0xa5}, 64))
	return all[8 : 8+len(text)], all
}

// overwrite writes over a list and its spare room.
func overwrite[T any](list []T, with T) {
	list = list[:cap(list)]
	for i := range list {
		list[i] = with
	}
}

const someText = "pay 1 2.00\n\n# a remark\n today\n#\nfate x3d\nopen 7 1000.00 1250 12 level\nx"

// What is handed in is the same behind the call, what lies around it too.
func TestGivenBytesStay(t *testing.T) {
	for _, text := range []string{"", "\n", "#", someText, "fate a\nb", strings.Repeat("x", 200)} {
		given, all := guarded(text)
		before := bytes.Clone(all)
		for _, line := range script.Lines(given) {
			overwrite(line, '?')
		}
		script.Parse(given)
		if !bytes.Equal(all, before) {
			t.Errorf("bytes that were handed in changed: %q, want %q", all, before)
		}
	}
	for _, s := range samples() {
		given, all := guarded(s.line)
		before := bytes.Clone(all)
		script.Parse(given)
		if !bytes.Equal(all, before) {
			t.Errorf("18.2: bytes that were handed in changed: %q, want %q", all, before)
		}
	}
	numbers := []int64{9, 1, -2, 3, 9, 9}
	script.Show(api.Reply{Err: api.ErrCrashed, Nums: numbers[1:4]})
	if !slices.Equal(numbers, []int64{9, 1, -2, 3, 9, 9}) {
		t.Errorf("18.4: numbers that were handed in changed: %v", numbers)
	}
}

// What becomes of what was handed in is seen in no answer.
func TestAnswersAreNew(t *testing.T) {
	given, all := guarded(someText)
	lines := script.Lines(given)
	overwrite(all, '?')
	if want := modelLines(someText); !slices.Equal(texts(lines), want) {
		t.Errorf("18.1: lines share memory with the text: %q, want %q", texts(lines), want)
	}
	given, all = guarded("fate x3d")
	op, _, _ := script.Parse(given)
	overwrite(all, '?')
	if op.Text != "x3d" {
		t.Errorf("18.2: the letters share memory with the line: %q", op.Text)
	}
}

// No two lines of an answer share memory, their spare room neither; and no two answers do.
func TestLinesShareNothing(t *testing.T) {
	text := []byte(strings.Repeat("a\nbc\ndef\n\n#\nghij\n", 10))
	want := texts(script.Lines(text))
	other := script.Lines(text)
	for i := range want {
		lines := script.Lines(text)
		overwrite(lines[i], '?')
		changed := slices.Clone(want)
		changed[i] = strings.Repeat("?", len(want[i]))
		if !slices.Equal(texts(lines), changed) {
			t.Errorf("18.1: the line %d shares memory with others of its answer", i)
		}
		overwrite(lines, nil)
	}
	if !slices.Equal(texts(other), want) || string(text) != strings.Repeat("a\nbc\ndef\n\n#\nghij\n", 10) {
		t.Errorf("18.1: two answers share memory, or one with the text")
	}
}

// A line may be grown without touching another.
func TestLinesMayGrow(t *testing.T) {
	lines := script.Lines([]byte("a\nb\nc"))
	for i := range lines {
		_ = append(lines[i], "????????????????"...)
	}
	if got := texts(lines); !slices.Equal(got, []string{"a", "b", "c"}) {
		t.Errorf("18.1: a line grew into another: %q", got)
	}
}

// asked hands memory of its own to every call that takes a list, and tells by weak pointers whether it is still held.
func asked() (lines [][]byte, op api.Op, text weak.Pointer[[4096]byte], line weak.Pointer[[96]byte], nums weak.Pointer[[512]int64]) {
	a, b, c := new([4096]byte), new([96]byte), new([512]int64)
	copy(a[:], "pay 1 2.00\ntoday\n")
	copy(b[:], "fate "+strings.Repeat("x", 91))
	lines = script.Lines(a[:])
	op, _, _ = script.Parse(b[:])
	script.Show(api.Reply{Nums: c[:]})
	return lines, op, weak.Make(a), weak.Make(b), weak.Make(c)
}

// Nothing that is handed in is kept, while the answers live.
func TestGivenMemoryIsLetGo(t *testing.T) {
	lines, op, text, line, nums := asked()
	runtime.GC()
	if text.Value() != nil || line.Value() != nil || nums.Value() != nil {
		t.Errorf("memory that was handed in is kept")
	}
	if len(lines) != 3 || len(op.Text) != 91 {
		t.Errorf("18.1, 18.2: %q, %+v", lines, op)
	}
	runtime.KeepAlive(lines)
	runtime.KeepAlive(op)
}

// Nil and empty say the same.
func TestNilIsEmpty(t *testing.T) {
	for _, none := range [][]byte{nil, {}, make([]byte, 0, 9), []byte("abc")[3:]} {
		if lines := script.Lines(none); len(lines) != 0 {
			t.Errorf("18.1: Lines of no bytes = %q", lines)
		}
		if op, why, place := script.Parse(none); op != (api.Op{}) || why != api.ErrCommand || place != 0 {
			t.Errorf("18.2: Parse of no bytes = %+v, %d, %d", op, why, place)
		}
	}
	for _, none := range [][]int64{nil, {}, make([]int64, 0, 9)} {
		if text := script.Show(api.Reply{Nums: none}); text != "ok" {
			t.Errorf("18.4: Show without numbers = %q", text)
		}
		if text := script.Show(api.Reply{Err: api.ErrArg, Nums: none}); text != "error 2" {
			t.Errorf("18.4: Show without numbers = %q", text)
		}
	}
}

// Nothing is kept from call to call: asked again, in any order and at the same time, every call answers the same.
func TestNothingIsKept(t *testing.T) {
	list := samples()
	var group sync.WaitGroup
	for turn := range 8 {
		group.Go(func() {
			for i := range 20 * len(list) {
				s := list[(i*(2*turn+1)+turn)%len(list)]
				reads(t, s.line, s.op)
				tells(t, s.op, s.line)
				refuses(t, "?"+s.line, api.ErrCommand, 0)
				untold(t, api.Op{Kind: -s.op.Kind})
				cuts(t, s.line+"\n"+s.line, s.line, s.line)
				shows(t, "error 182 4", api.ErrNumber, 4)
			}
		})
	}
	group.Wait()
}
