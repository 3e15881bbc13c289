package money_test

import (
	"math/big"
	"slices"
	"testing"

	"arrears/money"
)

// cut is what 1.7 asks of weights that may be, by numbers without bounds: each missing cent looks for its part anew.
func cut(total int64, weights []int64) []int64 {
	all := new(big.Int)
	for _, weight := range weights {
		all.Add(all, big.NewInt(weight))
	}
	parts := make([]int64, len(weights))
	rests := make([]*big.Int, len(weights))
	missing := total
	for i, weight := range weights {
		part, rest := new(big.Int).DivMod(product(total, weight), all, new(big.Int))
		parts[i], rests[i] = part.Int64(), rest
		missing -= parts[i]
	}
	for range missing {
		best := 0
		for i := range rests {
			if rests[i].Cmp(rests[best]) > 0 {
				best = i
			}
		}
		parts[best]++
		rests[best] = big.NewInt(-1)
	}
	return parts
}

// ones is count weights of 1.
func ones(count int) []int64 {
	return slices.Repeat([]int64{1}, count)
}

// 1.7: the document's examples, and rests that are equal or lie far apart.
func TestSplit(t *testing.T) {
	for _, c := range []struct {
		total         int64
		weights, want []int64
	}{
		{100, []int64{1, 1, 1}, []int64{34, 33, 33}},
		{5, []int64{0, 2, 0, 1}, []int64{0, 3, 0, 2}},
		{0, []int64{7}, []int64{0}},
		{0, []int64{0, 3, 4}, []int64{0, 0, 0}},
		{2, []int64{1, 1, 1}, []int64{1, 1, 0}},
		{1, []int64{1, 2, 2}, []int64{0, 1, 0}},
		{10, []int64{3, 3, 1}, []int64{4, 4, 2}},
		{7, []int64{0, 0, 1}, []int64{0, 0, 7}},
		{top, []int64{top}, []int64{top}},
		{top, []int64{1, 1}, []int64{1 << 62, 1<<62 - 1}},
		{top, []int64{top - 1, 1}, []int64{top - 1, 1}},
		{top - 1, []int64{top - 1, 1}, []int64{top - 2, 1}},
		{1, []int64{1 << 62, 1<<62 - 1}, []int64{1, 0}},
		{1, []int64{1<<62 - 1, 1 << 62}, []int64{0, 1}},
	} {
		if got, ok := money.Split(c.total, c.weights); !slices.Equal(got, c.want) || !ok {
			t.Errorf("1.7: Split(%d, %v) = %v, %v, want %v", c.total, c.weights, got, ok, c.want)
		}
	}
}

// 1.7: what is refused, with no list.
func TestSplitRefused(t *testing.T) {
	behind := ones(1000)
	behind[999] = -1
	for _, c := range []struct {
		total   int64
		weights []int64
	}{
		{-1, []int64{1}}, {bottom, []int64{1, 2}}, {1, nil}, {1, []int64{}}, {0, nil},
		{1, []int64{0}}, {0, []int64{0, 0}}, {1, make([]int64, 1000)},
		{1, []int64{2, -1}}, {1, []int64{-1}}, {1, []int64{bottom, top}}, {5, []int64{0, 3, -3, 5}}, {5, behind},
		{1, []int64{top, 1}}, {0, []int64{top, top, 2}}, {1, []int64{1 << 62, 1 << 62}},
		{5, ones(1001)}, {0, ones(1001)}, {5, ones(5000)},
	} {
		if got, ok := money.Split(c.total, c.weights); got != nil || ok {
			t.Errorf("1.7: Split(%d, %d weights %.20v) = %v, %v, want it refused", c.total, len(c.weights), c.weights, got, ok)
		}
	}
}

// 1.7: by numbers without bounds, for many totals and weights, up to 1000 of these.
func TestSplitExact(t *testing.T) {
	lists := [][]int64{{1}, {1, 1}, {1, 2, 3}, {0, 5, 0, 5, 5}, {3, 2, 2, 3}, {1, 9999999999}, {1 << 60, 1 << 61, 1 << 61, 1}, ones(1000)}
	rising := make([]int64, 1000)
	falling := make([]int64, 999)
	for i := range rising {
		rising[i] = int64(i * i)
	}
	for i := range falling {
		falling[i] = int64(1000 - i)
	}
	wide := spread(100)
	for i := range wide {
		wide[i] = wide[i] >> 8 & (1<<55 - 1)
	}
	lists = append(lists, rising, falling, wide)
	for _, weights := range lists {
		for _, total := range []int64{0, 1, 2, 3, 5, 7, 99, 100, 999, 1003, 123456789, 1 << 62, top - 1, top} {
			got, ok := money.Split(total, weights)
			if !ok || !slices.Equal(got, cut(total, weights)) {
				t.Errorf("1.7: Split(%d, %d weights %.20v) = %v, %v, want %v", total, len(weights), weights, got, ok, cut(total, weights))
			}
			if sum, _ := money.Sum(got); sum != total {
				t.Errorf("1.7: the parts of Split(%d, %d weights) add up to %d", total, len(weights), sum)
			}
		}
	}
}

// 1.1: what was handed in stays as it is, what lies behind it too.
func TestListsAreLeftAlone(t *testing.T) {
	// Behind the list there is room for several more of its length.
	memory := []int64{4, 3, 9, 1, 71, 72, 73, 74, 75, 76, 77, 78, 79, 80, 81, 82, 83}
	before := slices.Clone(memory)
	money.Sum(memory[:4])
	money.Split(1001, memory[:4])
	money.Split(-1, memory[:4])
	money.Split(1, memory[:0])
	if !slices.Equal(memory, before) {
		t.Errorf("1.1: the memory of a list that was handed in is %v, want %v", memory, before)
	}
	parts, _ := money.Split(1001, memory[:4])
	want := slices.Clone(parts)
	for i := range memory {
		memory[i] = -1
	}
	if !slices.Equal(parts, want) {
		t.Errorf("1.1: the answer changed with the list that was handed in: %v, want %v", parts, want)
	}
}

// 1.1: an answer shares no memory with another, nor with an argument, its spare room neither.
func TestAnswersAreNewMemory(t *testing.T) {
	weights := []int64{4, 3, 9, 1}
	first, _ := money.Split(1001, weights)
	want := slices.Clone(first)
	second, _ := money.Split(1001, weights)
	for i := range second[:cap(second)] {
		second[:cap(second)][i] = -1
	}
	third, _ := money.Split(1001, weights)
	if !slices.Equal(first, want) || !slices.Equal(third, want) {
		t.Errorf("1.1: writing into an answer of Split changed another: %v and %v, want %v", first, third, want)
	}
	if !slices.Equal(weights, []int64{4, 3, 9, 1}) {
		t.Errorf("1.1: writing into an answer of Split changed the weights: %v", weights)
	}
}
