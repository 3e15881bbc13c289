package frame_test

import (
	"fmt"
	"iter"
	"sync"
	"testing"

	"arrears/frame"
)

// some is a file of three frames, with half of a fourth behind them, and what All tells of it.
func some() (file []byte, told []string) {
	file = joined("one", "", "three", "fourth")
	return file[:len(file)-3], []string{`0:"one"`, `11:""`, `19:"three"`}
}

// first is what an iterator tells to a caller that stops at the given frame.
func first(frames iter.Seq2[int, []byte], stop int) []string {
	var out []string
	for at, payload := range frames {
		out = append(out, fmt.Sprintf("%d:%q", at, payload))
		if len(out) == stop {
			break
		}
	}
	return out
}

// 6.7: a caller stops at the first frame, at a later one, at the last, or not at all; and begins again.
func TestAllStopped(t *testing.T) {
	file, told := some()
	frames := frame.All(file)
	for range 2 {
		for stop := 1; stop <= len(told)+1; stop++ {
			got, want := fmt.Sprint(first(frames, stop)), fmt.Sprint(told[:min(stop, len(told))])
			if got != want {
				t.Errorf("6.7: All stopped at %d tells %s, want %s", stop, got, want)
			}
		}
	}
}

// 6.7: behind the frame at which it is stopped, the iterator asks for nothing more.
func TestAllAsksNoMore(t *testing.T) {
	file, told := some()
	frames := frame.All(file)
	for stop := 1; stop <= len(told)+1; stop++ {
		calls := 0
		frames(func(int, []byte) bool {
			calls++
			return calls < stop
		})
		if want := min(stop, len(told)); calls != want {
			t.Errorf("6.7: stopped at %d: %d frames told, want %d", stop, calls, want)
		}
	}
}

// 6.7: a loop within a loop, over one iterator.
func TestAllNested(t *testing.T) {
	file, told := some()
	frames := frame.All(file)
	outer := 0
	for at, payload := range frames {
		if got, want := fmt.Sprint(first(frames, 0)), fmt.Sprint(told); got != want {
			t.Errorf("6.7: the inner loop tells %s, want %s", got, want)
		}
		if got := fmt.Sprintf("%d:%q", at, payload); got != told[outer] {
			t.Errorf("6.7: the outer loop tells %s, want %s", got, told[outer])
		}
		outer++
	}
	if outer != len(told) {
		t.Errorf("6.7: the outer loop has %d frames, want %d", outer, len(told))
	}
}

// 6.7: taken frame by frame, by one caller and by several at once.
func TestAllPulled(t *testing.T) {
	file, told := some()
	frames := frame.All(file)
	next, stop := iter.Pull2(frames)
	for _, want := range told {
		at, payload, ok := next()
		if got := fmt.Sprintf("%d:%q", at, payload); got != want || !ok {
			t.Errorf("6.7: next tells %s, %v, want %s", got, ok, want)
		}
	}
	if at, payload, ok := next(); at != 0 || payload != nil || ok {
		t.Errorf("6.7: behind the last frame %d, %q, %v is told", at, payload, ok)
	}
	stop()

	answers := make([]string, 8)
	var group sync.WaitGroup
	for k := range answers {
		group.Go(func() { answers[k] = fmt.Sprint(first(frames, 0)) })
	}
	group.Wait()
	for _, got := range answers {
		if got != fmt.Sprint(told) {
			t.Errorf("6.7: one of several callers is told %s, want %s", got, told)
		}
	}
}

// 6.7: files of which there is nothing to tell.
func TestAllOfNone(t *testing.T) {
	for _, file := range []string{"", "\x00", "\x00\x00\x00", "\xff\xff\xff\xff", "\x00\x00\x00\x00\x00\x00\x00\x00" + letterA} {
		for at, payload := range frame.All([]byte(file)) {
			t.Errorf("6.7: All(%x) tells %d, %q", file, at, payload)
		}
	}
	for at, payload := range frame.All(nil) {
		t.Errorf("6.7: All(nil) tells %d, %q", at, payload)
	}
}
