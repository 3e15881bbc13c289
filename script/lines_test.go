package script_test

import (
	"math/rand"
	"slices"
	"strings"
	"testing"

	"arrears/script"
)

// 18.1: the edges of texts: line ends side by side, first and last; remarks, and what only looks like one; bytes that are no line end.
func TestLinesEdges(t *testing.T) {
	cuts(t, "\n")
	cuts(t, "\n\n\n")
	cuts(t, "#")
	cuts(t, "#\n#x\n##\n# today")
	cuts(t, "today", "today")
	cuts(t, "today\n", "today")
	cuts(t, "\ntoday", "today")
	cuts(t, "\n\ntoday\n\ncalm\n\n", "today", "calm")
	cuts(t, " ", " ")
	cuts(t, " \n  \n", " ", "  ")
	cuts(t, " # x", " # x")
	cuts(t, "\t#", "\t#")
	cuts(t, "today # x\ncalm#", "today # x", "calm#")
	cuts(t, "\r\n\r\n", "\r", "\r")
	cuts(t, "\r#\n#\r\n", "\r#")
	cuts(t, "a\rb\vc\fd\x85e\u2028f\u2029g\x00h", "a\rb\vc\fd\x85e\u2028f\u2029g\x00h")
	cuts(t, "\xff\n\xfe\n\x00\n", "\xff", "\xfe", "\x00")
	cuts(t, "a\na\na", "a", "a", "a")
	cuts(t, "b\na\nb", "b", "a", "b")
	cuts(t, "no command\n1 2 3", "no command", "1 2 3")
}

// 18.1: Lines has no bound: long lines and many of them.
func TestLinesLong(t *testing.T) {
	long := strings.Repeat("x", 1<<20)
	cuts(t, long+"\n#"+long+"\n"+long, long, long)
	const count = 100000
	cuts(t, strings.Repeat("today\n\n#\n", count), slices.Repeat([]string{"today"}, count)...)
	cuts(t, strings.Repeat("\n", count))
	cuts(t, strings.Repeat("#", count))
}

// 18.1: every text of up to seven bytes of those that matter.
func TestAllShortTexts(t *testing.T) {
	for length := range 8 {
		eachText("\n# a\r", length, func(text string) { cuts(t, text, modelLines(text)...) })
	}
}

// eachText hands on every text of this length over the bytes of a set.
func eachText(set string, length int, with func(text string)) {
	text := make([]byte, length)
	var at func(place int)
	at = func(place int) {
		if place == length {
			with(string(text))
			return
		}
		for i := range len(set) {
			text[place] = set[i]
			at(place + 1)
		}
	}
	at(0)
}

// 18.1: every byte as a line, ahead of one and behind one.
func TestEachByteInText(t *testing.T) {
	for b := range 256 {
		one := string([]byte{byte(b)})
		for _, text := range []string{one, one + "a", "a" + one, "a" + one + "b", "a\n" + one + "\nb", one + one + "#"} {
			cuts(t, text, modelLines(text)...)
		}
	}
}

// 18.1: texts of any bytes.
func TestAnyTexts(t *testing.T) {
	random := rand.New(rand.NewSource(181))
	told := 0
	for range 3000 {
		text := make([]byte, random.Intn(200))
		for i := range text {
			text[i] = byte(random.Intn(256))
			if random.Intn(4) == 0 {
				text[i] = "\n\n# a"[random.Intn(5)]
			}
		}
		want := modelLines(string(text))
		told += len(want)
		cuts(t, string(text), want...)
		// A text's lines are those of its halves, if it is cut behind a line end.
		at := slices.Index(text, '\n') + 1
		halves := append(texts(script.Lines(text[:at])), texts(script.Lines(text[at:]))...)
		if !slices.Equal(halves, want) {
			t.Errorf("18.1: Lines(%q) by halves = %q, want %q", text, halves, want)
		}
	}
	if told < 10000 {
		t.Errorf("too few of a kind: %d lines", told)
	}
}
