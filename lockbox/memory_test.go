package lockbox_test

import (
	"bytes"
	"runtime"
	"slices"
	"strings"
	"sync"
	"testing"
	"weak"

	"arrears/api"
	"arrears/lockbox"
)

// guarded lays bytes into the midst of a longer memory, and hands out that memory too.
func guarded(text string) (inside, all []byte) {
	all = slices.Concat(bytes.Repeat([]byte{0xa5}, 8), []byte(text), bytes.Repeat([]byte{0xa5}, 64))
	return all[8 : 8+len(text)], all
}

// overwrite writes over a list and its spare room.
func overwrite[T any](list []T, with T) {
	list = list[:cap(list)]
	for i := range list {
		list[i] = with
	}
}

// someFiles are files that are read and files that are refused.
func someFiles() []string {
	return []string{
		"", "\n", exampleFile, exampleFile + "\n", exampleFile[:50], headerLine, headerLine + firstLine + trailerLine,
		headerLine + secondLine + firstLine + trailerLine, strings.Replace(exampleFile, "75", "57", 1), strings.Repeat("T", 200),
	}
}

// 20.1: bytes that are handed in stay as they are, what lies around them too.
func TestGivenBytesStay(t *testing.T) {
	for _, file := range someFiles() {
		given, all := guarded(file)
		before := bytes.Clone(all)
		lockbox.Parse(given)
		lockbox.Post(open(t, rules(1), twoLoans()...).s, given)
		if !bytes.Equal(all, before) {
			t.Errorf("20.1: bytes that were handed in changed: %q, want %q", all, before)
		}
	}
}

// 20.1: what stands behind the bytes that are handed in is no part of the file.
func TestMemoryBehindTheFile(t *testing.T) {
	for length := range len(exampleFile) {
		whole := []byte(exampleFile)
		if _, why, _ := lockbox.Parse(whole[:length]); why != api.ErrForm {
			t.Errorf("20.4: the first %d bytes of a file are answered %d", length, why)
		}
	}
	items := append(exampleBatch().Items, pay(8, 1))
	tells(t, api.Batch{Day: first, Number: 12, Items: items[:2]}, exampleFile)
}

// 20.1: items that are handed in stay as they are, their spare room too.
func TestGivenItemsStay(t *testing.T) {
	all := []api.Item{pay(1, 1), pay(7, 10000), pay(450123, 5), pay(2, 2), pay(3, 3)}
	for _, number := range []int{12, 0} {
		before := slices.Clone(all)
		b := api.Batch{Day: first, Number: number, Items: all[1:3]}
		lockbox.Format(b)
		lockbox.Ops(b)
		if !slices.Equal(all, before) {
			t.Errorf("20.1: items that were handed in changed: %v, want %v", all, before)
		}
	}
}

// 20.1: what becomes of what was handed in is seen in no answer, and what becomes of an answer in no other.
func TestAnswersAreNew(t *testing.T) {
	given, all := guarded(exampleFile)
	b, _, _ := lockbox.Parse(given)
	other, _, _ := lockbox.Parse(given)
	overwrite(all, '?')
	overwrite(other.Items, pay(-1, -1))
	if !sameBatch(b, exampleBatch()) {
		t.Errorf("20.1: the items share memory with the file, or with another answer's: %v", b)
	}
	file, _ := lockbox.Format(b)
	otherFile, _ := lockbox.Format(b)
	ops, otherOps := lockbox.Ops(b), lockbox.Ops(b)
	want := slices.Clone(ops)
	overwrite(b.Items, pay(-1, -1))
	overwrite(otherFile, '?')
	overwrite(otherOps, api.Op{Kind: -1})
	if string(file) != exampleFile || !slices.Equal(ops, want) {
		t.Errorf("20.1: answers share memory: %q, %v", file, ops)
	}
}

// 20.1: the replies of a posting share no memory, neither with one another nor with the servicer.
func TestRepliesAreNew(t *testing.T) {
	file := fileOf(first, 12, pay(7, 5), pay(7, 6), pay(9, 1), pay(450123, 5), pay(7, 7))
	calm := open(t, rules(2), twoLoans()...)
	want := calm.posts(file)
	for i := range want {
		w := open(t, rules(2), twoLoans()...)
		got := w.posts(file)
		for j, r := range got {
			if j != i {
				overwrite(r.Nums, -7)
			}
		}
		if !sameReply(got[i], want[i]) {
			t.Errorf("20.1: the reply %d shares memory with another", i)
		}
		overwrite(got, api.Reply{Err: -1})
		if w.whole() != calm.whole() {
			t.Errorf("20.1: the replies share memory with the servicer")
		}
	}
}

// letGo hands memory of its own to the calls, and tells by weak pointers whether it is still held.
func letGo(w *shop) (b api.Batch, file []byte, ops []api.Op, replies []api.Reply, given weak.Pointer[[512]byte], items weak.Pointer[[64]api.Item]) {
	bytesOf, itemsOf := new([512]byte), new([64]api.Item)
	length := copy(bytesOf[:], exampleFile)
	count := copy(itemsOf[:], exampleBatch().Items)
	b, _, _ = lockbox.Parse(bytesOf[:length])
	replies, _, _ = lockbox.Post(w.s, bytesOf[:length])
	own := api.Batch{Day: first, Number: 12, Items: itemsOf[:count]}
	file, _ = lockbox.Format(own)
	ops = lockbox.Ops(own)
	return b, file, ops, replies, weak.Make(bytesOf), weak.Make(itemsOf)
}

// Nothing that is handed in is kept, while the answers and the servicer live.
func TestGivenMemoryIsLetGo(t *testing.T) {
	w := open(t, rules(0), twoLoans()...)
	b, file, ops, replies, given, items := letGo(w)
	runtime.GC()
	if given.Value() != nil || items.Value() != nil {
		t.Errorf("20.1: memory that was handed in is kept")
	}
	if len(b.Items) != 2 || string(file) != exampleFile || len(ops) != 2 || len(replies) != 2 {
		t.Errorf("20.1: %v, %q, %v, %v", b, file, ops, replies)
	}
	runtime.KeepAlive(w)
}

// 20.1: nil and empty say the same.
func TestNilIsEmpty(t *testing.T) {
	w := open(t, rules(0), twoLoans()...)
	for _, none := range [][]byte{nil, {}, make([]byte, 0, 9), []byte(exampleFile)[:0]} {
		if b, why, line := lockbox.Parse(none); !sameBatch(b, api.Batch{}) || why != api.ErrForm || line != 0 {
			t.Errorf("20.4: Parse of no bytes = %v, %d, %d", b, why, line)
		}
		if replies, why, line := lockbox.Post(w.s, none); len(replies) != 0 || why != api.ErrForm || line != 0 {
			t.Errorf("20.7: Post of no bytes = %v, %d, %d", replies, why, line)
		}
	}
	for _, none := range [][]api.Item{nil, {}, make([]api.Item, 0, 9), exampleBatch().Items[:0]} {
		hasNone(t, api.Batch{Day: first, Number: 12, Items: none})
	}
}

// Nothing is kept from call to call: asked again, in any order and at the same time, every call answers the same.
func TestNothingIsKept(t *testing.T) {
	files := someFiles()
	var group sync.WaitGroup
	for turn := range 8 {
		group.Go(func() {
			for i := range 20 * len(files) {
				file := files[(i*(2*turn+1)+turn)%len(files)]
				if _, why, line := modelParse(file); why != api.OK {
					refuses(t, file, why, line)
				}
				reads(t, exampleFile, exampleBatch())
				hasOne(t, exampleBatch())
				hasNone(t, api.Batch{Day: first})
				digit(t, 7, 5, true)
				valid(t, "75", true)
				valid(t, "76", false)
			}
		})
	}
	group.Wait()
}
