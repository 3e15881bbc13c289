package lockbox_test

import (
	"math/rand"
	"slices"
	"testing"

	"arrears/api"
	"arrears/lockbox"
)

// hasNone holds a batch to have no file, and so no operations.
func hasNone(t *testing.T, b api.Batch) {
	t.Helper()
	if file, ok := lockbox.Format(b); file != nil || ok {
		t.Errorf("20.5: Format of day %d, number %d, %d items, .. = %.60q, %v, want nil, false", b.Day, b.Number, len(b.Items), file, ok)
	}
	if ops := lockbox.Ops(b); ops != nil {
		t.Errorf("20.6: Ops of day %d, number %d, %d items, .. = %d, want nil", b.Day, b.Number, len(b.Items), len(ops))
	}
}

// hasOne holds a batch to the file and the operations that it has.
func hasOne(t *testing.T, b api.Batch) {
	t.Helper()
	tells(t, b, modelFormat(b))
	var want []api.Op
	for i, item := range b.Items {
		want = append(want, api.Op{Kind: api.OpPay, Loan: item.Loan, Amount: item.Amount, Count: b.Number*10000 + 1 + i})
	}
	if got := lockbox.Ops(b); !slices.Equal(got, want) {
		t.Errorf("20.6: Ops of day %d, number %d, %d items, .. = %.200v, want %.200v", b.Day, b.Number, len(b.Items), got, want)
	}
}

// with is the chapter's batch with a change.
func with(change func(b *api.Batch)) api.Batch {
	b := exampleBatch()
	change(&b)
	return b
}

// 20.5, 20.6: each field of a batch at its ends, and beyond them.
func TestEndsOfABatch(t *testing.T) {
	for _, c := range []struct {
		most    int64
		beyond  []int64
		field   string
		replace func(b *api.Batch, n int64)
	}{
		{api.MaxDay, []int64{0, -1, least, api.MaxDay + 1, most, first + 1<<32}, "Day", func(b *api.Batch, n int64) { b.Day = int(n) }},
		{api.MaxBatch, []int64{0, -12, least, api.MaxBatch + 1, most, 12 + 1<<32}, "Number", func(b *api.Batch, n int64) { b.Number = int(n) }},
		{api.MaxLoan, []int64{0, -7, least, api.MaxLoan + 1, most, 7 + 1<<32}, "the first Loan", func(b *api.Batch, n int64) { b.Items[0].Loan = int(n) }},
		{api.MaxLoan, []int64{0, -7, least, api.MaxLoan + 1, most, 7 + 1<<32}, "the last Loan", func(b *api.Batch, n int64) { b.Items[1].Loan = int(n) }},
		{api.MaxItem, []int64{0, -5, least, api.MaxItem + 1, most}, "the first Amount", func(b *api.Batch, n int64) { b.Items[0].Amount = n }},
		{api.MaxItem, []int64{0, -5, least, api.MaxItem + 1, most}, "the last Amount", func(b *api.Batch, n int64) { b.Items[1].Amount = n }},
	} {
		t.Run(c.field, func(t *testing.T) {
			hasOne(t, with(func(b *api.Batch) { c.replace(b, 1) }))
			hasOne(t, with(func(b *api.Batch) { c.replace(b, c.most) }))
			for _, n := range c.beyond {
				hasNone(t, with(func(b *api.Batch) { c.replace(b, n) }))
			}
		})
	}
	hasNone(t, api.Batch{})
}

// 20.5, 20.6: as many items as there may be, and one more; none.
func TestManyItems(t *testing.T) {
	_, items := many(api.MaxItems + 1)
	for _, count := range []int{1, 2, 9, 10, 999, 1000, api.MaxItems - 1, api.MaxItems} {
		hasOne(t, with(func(b *api.Batch) { b.Items = items[:count] }))
	}
	hasNone(t, with(func(b *api.Batch) { b.Items = items }))
	hasNone(t, with(func(b *api.Batch) { b.Items = nil }))
	hasNone(t, with(func(b *api.Batch) { b.Items = []api.Item{} }))
	// One bad item anywhere among many.
	for _, place := range []int{0, 5000, api.MaxItems - 1} {
		spoilt := slices.Clone(items[:api.MaxItems])
		spoilt[place].Amount = 0
		hasNone(t, with(func(b *api.Batch) { b.Items = spoilt }))
	}
	// The greatest sums.
	for i := range items {
		items[i] = api.Item{Loan: api.MaxLoan, Amount: api.MaxItem}
	}
	b := with(func(b *api.Batch) { b.Number, b.Items = api.MaxBatch, items[:api.MaxItems] })
	hasOne(t, b)
	if ops := lockbox.Ops(b); ops[api.MaxItems-1].Count != 9999999999 {
		t.Errorf("20.6: the greatest trace number is %d", ops[api.MaxItems-1].Count)
	}
}

// 20.6: the trace numbers of a batch rise, and lie below those of every batch with a greater number.
func TestTraceNumbers(t *testing.T) {
	random := rand.New(rand.NewSource(206))
	_, items := many(api.MaxItems)
	for range 50 {
		b := api.Batch{Day: first, Number: 1 + random.Intn(api.MaxBatch-1), Items: items[:1+random.Intn(api.MaxItems)]}
		next := api.Batch{Day: 1, Number: b.Number + 1, Items: items[:1]}
		hasOne(t, b)
		ops := append(lockbox.Ops(b), lockbox.Ops(next)...)
		for i := range len(ops) - 1 {
			if ops[i].Count <= 0 || ops[i].Count >= ops[i+1].Count {
				t.Fatalf("20.6: the trace numbers %d and %d", ops[i].Count, ops[i+1].Count)
			}
		}
	}
}
