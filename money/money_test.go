package money_test

import (
	"math"
	"math/big"
	"slices"
	"testing"

	"arrears/money"
)

const (
	top    = math.MaxInt64
	bottom = math.MinInt64
)

// cents and days are types of a caller's own, over int64 and over int.
type cents int64
type days int

// edges are the numbers around which a call could leave its range, or round the wrong way.
func edges() []int64 {
	list := []int64{bottom, bottom + 1, bottom + 2, bottom / 2, bottom/2 - 1, bottom / 3, -(1 << 32), -3037000500, -3037000499, -10001, -10000, -9999, -5000}
	for i := range int64(15) {
		list = append(list, i-7)
	}
	return append(list, 5000, 9999, 10000, 10001, 3037000499, 3037000500, 1<<32, top/3, 1<<62-1, 1<<62, 1<<62+1, top-2, top-1, top)
}

// spread makes numbers of all lengths and both signs, the same ones in each run.
func spread(count int) []int64 {
	list := make([]int64, count)
	state := uint64(count)
	for i := range list {
		state = state*6364136223846793005 + 1442695040888963407
		mixed := (state ^ state>>29) * 0xbf58476d1ce4e5b9
		list[i] = int64(mixed^mixed>>32) >> (mixed % 64)
	}
	return list
}

// fit is what a call must answer whose exact result is x.
func fit(x *big.Int) (int64, bool) {
	if !x.IsInt64() {
		return 0, false
	}
	return x.Int64(), true
}

// product is a times b, whole.
func product(a, b int64) *big.Int {
	return new(big.Int).Mul(big.NewInt(a), big.NewInt(b))
}

// nearest is what 1.3 asks, by numbers without bounds.
func nearest(a, b, c int64) (int64, bool) {
	if c == 0 {
		return 0, false
	}
	over, under := product(a, b), big.NewInt(c)
	if c < 0 {
		over.Neg(over)
		under.Neg(under)
	}
	q, r := new(big.Int).DivMod(over, under, new(big.Int))
	switch twice := r.Lsh(r, 1); twice.Cmp(under) {
	case 1:
		q.Add(q, big.NewInt(1))
	case 0:
		q.Add(q, big.NewInt(int64(q.Bit(0))))
	}
	return fit(q)
}

// floor is what 1.4 asks, by numbers without bounds.
func floor(a, b, c int64) (int64, int64, bool) {
	if c <= 0 {
		return 0, 0, false
	}
	q, r := new(big.Int).DivMod(product(a, b), big.NewInt(c), new(big.Int))
	if !q.IsInt64() {
		return 0, 0, false
	}
	return q.Int64(), r.Int64(), true
}

func checkPair(t *testing.T, name string, call func(a, b int64) (int64, bool), a, b int64, exact *big.Int) {
	t.Helper()
	want, wantOK := fit(exact)
	if got, ok := call(a, b); got != want || ok != wantOK {
		t.Errorf("%s(%d, %d) = %d, %v, want %d, %v", name, a, b, got, ok, want, wantOK)
	}
}

func checkPairs(t *testing.T, a, b int64) {
	t.Helper()
	checkPair(t, "1.2: Add", money.Add, a, b, new(big.Int).Add(big.NewInt(a), big.NewInt(b)))
	checkPair(t, "1.2: Sub", money.Sub, a, b, new(big.Int).Sub(big.NewInt(a), big.NewInt(b)))
	checkPair(t, "1.2: Mul", money.Mul, a, b, product(a, b))
	want, wantOK := nearest(a, b, 10000)
	if got, ok := money.Bps(a, b); got != want || ok != wantOK {
		t.Errorf("1.5: Bps(%d, %d) = %d, %v, want %d, %v", a, b, got, ok, want, wantOK)
	}
}

func checkDivisions(t *testing.T, a, b, c int64) {
	t.Helper()
	want, wantOK := nearest(a, b, c)
	if got, ok := money.MulDiv(a, b, c); got != want || ok != wantOK {
		t.Errorf("1.3: MulDiv(%d, %d, %d) = %d, %v, want %d, %v", a, b, c, got, ok, want, wantOK)
	}
	wantQ, wantR, wantOK := floor(a, b, c)
	if q, r, ok := money.MulDivFloor(a, b, c); q != wantQ || r != wantR || ok != wantOK {
		t.Errorf("1.4: MulDivFloor(%d, %d, %d) = %d, %d, %v, want %d, %d, %v", a, b, c, q, r, ok, wantQ, wantR, wantOK)
	}
}

// 1.2, 1.5: every pair of edges, held against numbers without bounds.
func TestPairsOfEdges(t *testing.T) {
	for _, a := range edges() {
		for _, b := range edges() {
			checkPairs(t, a, b)
		}
	}
}

// 1.3, 1.4: every three edges, held against numbers without bounds.
func TestDivisionsOfEdges(t *testing.T) {
	for _, a := range edges() {
		for _, b := range edges() {
			for _, c := range edges() {
				checkDivisions(t, a, b, c)
			}
		}
	}
}

// 1.2 to 1.5: numbers of all lengths.
func TestNumbersOfAllLengths(t *testing.T) {
	list := spread(60000)
	for i := 0; i < len(list); i += 3 {
		checkPairs(t, list[i], list[i+1])
		checkDivisions(t, list[i], list[i+1], list[i+2])
	}
}

// 1.2: the document's own examples, and the ends of the range.
func TestSumsAndProducts(t *testing.T) {
	for _, c := range []struct {
		name string
		call func(a, b int64) (int64, bool)
		a, b int64
		want int64
		ok   bool
	}{
		{"Add", money.Add, 2, 3, 5, true},
		{"Add", money.Add, top, 1, 0, false},
		{"Add", money.Add, bottom, -1, 0, false},
		{"Add", money.Add, bottom, top, -1, true},
		{"Sub", money.Sub, -2, top, 0, false},
		{"Sub", money.Sub, -1, top, bottom, true},
		{"Sub", money.Sub, 0, bottom, 0, false},
		{"Sub", money.Sub, -1, bottom, top, true},
		{"Mul", money.Mul, -12, 12, -144, true},
		{"Mul", money.Mul, bottom, -1, 0, false},
		{"Mul", money.Mul, bottom, 1, bottom, true},
		{"Mul", money.Mul, 3037000500, 3037000500, 0, false},
		{"Mul", money.Mul, 1 << 32, 1 << 32, 0, false},
	} {
		if got, ok := c.call(c.a, c.b); got != c.want || ok != c.ok {
			t.Errorf("1.2: %s(%d, %d) = %d, %v, want %d, %v", c.name, c.a, c.b, got, ok, c.want, c.ok)
		}
	}
}

// 1.3: halves go to the even number on both sides of 0; a c below 0 turns the sign; a c of 0 is refused.
func TestNearest(t *testing.T) {
	for _, c := range []struct {
		a, b, c, want int64
		ok            bool
	}{
		{5, 1, 2, 2, true}, {7, 1, 2, 4, true}, {-5, 1, 2, -2, true}, {-7, 1, 2, -4, true},
		{1, 1, 2, 0, true}, {3, 1, 2, 2, true}, {-1, 1, 2, 0, true}, {-3, 1, 2, -2, true},
		{7, 1, -2, -4, true}, {-7, -1, -2, -4, true}, {-7, 1, -2, 4, true},
		{4, 1, 3, 1, true}, {5, 1, 3, 2, true}, {-5, 1, 3, -2, true},
		{1, 1, 0, 0, false}, {0, 0, 0, 0, false},
		{top, top, top, top, true}, {top, top, bottom, -top + 1, true},
		{bottom, 1, -1, 0, false}, {bottom, bottom, bottom, bottom, true}, {bottom, bottom, top, 0, false},
		{top, 1, 2, 1 << 62, true}, {1, 1, bottom, 0, true}, {1 << 62, 1, bottom, 0, true}, {1<<62 + 1, 1, bottom, -1, true},
		{top - 2, 5, 5, top - 2, true}, {top, 3, 3, top, true},
		// The greatest int64 and just a half: the even one is beyond it, and fits below 0 alone.
		{4294967295, 4294967297, 2, 0, false}, {-4294967295, 4294967297, 2, bottom, true}, {4294967295, 4294967297, -2, bottom, true},
		// The size of the least int64 and just a half: the even one is that size.
		{274177, 67280421310721, 2, 0, false}, {274177, 67280421310721, -2, bottom, true},
		// The greatest int64 and more, and less, than a half.
		{7192434839956299412, 320174941379802437, 249674131549651553, 0, false}, {-7192434839956299412, 320174941379802437, 249674131549651553, bottom, true},
		{2127939823042875102, 82662572902669611, 19071222547665854, top, true}, {2127939823042875102, 82662572902669611, -19071222547665854, -top, true},
		// The size of the least int64 and less, and more, than a half.
		{7358060158664132391, 2390448764068257398, 1907010336559787764, 0, false}, {7358060158664132391, -2390448764068257398, 1907010336559787764, bottom, true},
		{1888020015561061691, 7048143525676016169, 1442751739369412440, 0, false}, {1888020015561061691, -7048143525676016169, 1442751739369412440, 0, false},
		// 2^64 - 1 and more than a half: rounded, it must not come round to 0.
		{2330915931050002843, 767699398435618087, 97005886291956209, 0, false}, {3742982591365417171, -4712776147110667684, 956257592405038800, 0, false},
	} {
		if got, ok := money.MulDiv(c.a, c.b, c.c); got != c.want || ok != c.ok {
			t.Errorf("1.3: MulDiv(%d, %d, %d) = %d, %v, want %d, %v", c.a, c.b, c.c, got, ok, c.want, c.ok)
		}
	}
}

// 1.3, 1.4: quotients at the very ends of the range: they are built from the end and a rest on either side of a half.
func TestQuotientsAtTheEnds(t *testing.T) {
	ends := []*big.Int{big.NewInt(top), big.NewInt(bottom), new(big.Int).SetUint64(math.MaxUint64), new(big.Int).Neg(new(big.Int).SetUint64(math.MaxUint64))}
	for _, end := range ends {
		for c := int64(1); c < 3000; c++ {
			for b := int64(1); b < 8; b++ {
				over := new(big.Int).Mul(end, big.NewInt(c))
				a := over.Div(over, big.NewInt(b))
				if !a.IsInt64() {
					continue
				}
				for off := int64(0); off < 3; off++ {
					if at, ok := money.Add(a.Int64(), off-1); ok {
						checkDivisions(t, at, b, c)
						checkDivisions(t, at, b, -c)
					}
				}
			}
		}
	}
}

// 1.4: down, not towards 0; the rest is never below 0; a c that is not above 0 is refused.
func TestFloor(t *testing.T) {
	for _, c := range []struct {
		a, b, c, q, r int64
		ok            bool
	}{
		{7, 1, 2, 3, 1, true}, {-7, 1, 2, -4, 1, true}, {7, -1, 2, -4, 1, true}, {-7, -1, 2, 3, 1, true}, {-8, 1, 2, -4, 0, true},
		{7, 1, -2, 0, 0, false}, {7, 1, 0, 0, 0, false}, {0, 0, bottom, 0, 0, false},
		{bottom, 1, 1, bottom, 0, true}, {top, top, top, top, 0, true}, {bottom, top, top, bottom, 0, true},
		{top, 2, 1, 0, 0, false}, {bottom, -1, 1, 0, 0, false}, {bottom, bottom, top, 0, 0, false},
		{-1, 1, top, -1, top - 1, true}, {bottom, bottom, 1, 0, 0, false},
		// Beyond the least int64 by less than 1, and -(2^64 - 1) and a part: rounded down, they must not come round.
		{7358060158664132391, -2390448764068257398, 1907010336559787764, 0, 0, false}, {3742982591365417171, -4712776147110667684, 956257592405038800, 0, 0, false},
		// Above the least by less than 1: down to it.
		{-4294967295, 4294967297, 2, bottom, 1, true}, {4294967295, 4294967297, 2, top, 1, true},
	} {
		if q, r, ok := money.MulDivFloor(c.a, c.b, c.c); q != c.q || r != c.r || ok != c.ok {
			t.Errorf("1.4: MulDivFloor(%d, %d, %d) = %d, %d, %v, want %d, %d, %v", c.a, c.b, c.c, q, r, ok, c.q, c.r, c.ok)
		}
	}
}

// 1.5: basis points, a half to the even cent.
func TestBps(t *testing.T) {
	for _, c := range []struct {
		amount, bp, want int64
		ok               bool
	}{
		{12345, 450, 556, true}, {100, 50, 0, true}, {300, 50, 2, true}, {-300, 50, -2, true}, {300, -50, -2, true},
		{top, 10000, top, true}, {bottom, 10000, bottom, true}, {bottom, -10000, 0, false}, {top, 10001, 0, false}, {0, bottom, 0, true},
	} {
		if got, ok := money.Bps(c.amount, c.bp); got != c.want || ok != c.ok {
			t.Errorf("1.5: Bps(%d, %d) = %d, %v, want %d, %v", c.amount, c.bp, got, ok, c.want, c.ok)
		}
	}
}

// 1.6: sums on the way count for nothing.
func TestSum(t *testing.T) {
	for _, c := range []struct {
		list []int64
		want int64
		ok   bool
	}{
		{nil, 0, true}, {[]int64{}, 0, true}, {[]int64{-5}, -5, true}, {[]int64{1, 2, 3}, 6, true},
		{[]int64{top, 1, -1}, top, true}, {[]int64{bottom, -1, 1}, bottom, true}, {[]int64{top, top, bottom, bottom}, -2, true},
		{[]int64{top, 1}, 0, false}, {[]int64{bottom, -1}, 0, false}, {[]int64{bottom, bottom}, 0, false}, {[]int64{top, top, 2}, 0, false},
		{[]int64{bottom, bottom, top, top, 2}, 0, true},
	} {
		if got, ok := money.Sum(c.list); got != c.want || ok != c.ok {
			t.Errorf("1.6: Sum(%v) = %d, %v, want %d, %v", c.list, got, ok, c.want, c.ok)
		}
	}
}

// 1.6: whatever the order, by numbers without bounds.
func TestSumInAnyOrder(t *testing.T) {
	far := append(slices.Repeat([]int64{top}, 1000), slices.Repeat([]int64{bottom}, 1000)...)
	for _, list := range [][]int64{edges(), spread(1000), far, far[:500], far[1500:]} {
		exact := new(big.Int)
		for _, x := range list {
			exact.Add(exact, big.NewInt(x))
		}
		want, wantOK := fit(exact)
		sorted := slices.Sorted(slices.Values(list))
		turned := slices.Clone(sorted)
		slices.Reverse(turned)
		for _, order := range [][]int64{list, sorted, turned} {
			if got, ok := money.Sum(order); got != want || ok != wantOK {
				t.Errorf("1.6: Sum of %d numbers = %d, %v, want %d, %v", len(order), got, ok, want, wantOK)
			}
		}
	}
}

// 1.6: the answer has the type of the list.
func TestSumOfOtherTypes(t *testing.T) {
	var c cents
	var d days
	var n int
	var ok bool
	if c, ok = money.Sum([]cents{top, 1, -2}); c != top-1 || !ok {
		t.Errorf("1.6: Sum of cents = %d, %v, want %d", c, ok, int64(top-1))
	}
	if d, ok = money.Sum([]days{bottom, -1, 1}); d != bottom || !ok {
		t.Errorf("1.6: Sum of days = %d, %v, want %d", d, ok, int64(bottom))
	}
	if d, ok = money.Sum([]days{top, 1}); d != 0 || ok {
		t.Errorf("1.6: Sum of days beyond the range = %d, %v, want it refused", d, ok)
	}
	if n, ok = money.Sum([]int{30, 31}); n != 61 || !ok {
		t.Errorf("1.6: Sum of ints = %d, %v, want 61", n, ok)
	}
	if n, ok = money.Sum[int](nil); n != 0 || !ok {
		t.Errorf("1.6: Sum of no ints = %d, %v, want 0", n, ok)
	}
}

// 1.8: the test of low comes first, also where low is above high.
func TestClamp(t *testing.T) {
	for _, c := range []struct{ x, low, high, want int64 }{
		{5, 1, 9, 5}, {1, 1, 9, 1}, {9, 1, 9, 9}, {0, 1, 9, 1}, {10, 1, 9, 9}, {4, 4, 4, 4},
		{5, 9, 3, 9}, {10, 9, 3, 3}, {9, 9, 3, 3}, {2, 9, 3, 9},
		{bottom, top, bottom, top}, {top, bottom, top, top}, {top, bottom, bottom, bottom}, {bottom, bottom, top, bottom}, {top, top, bottom, bottom},
	} {
		if got := money.Clamp(c.x, c.low, c.high); got != c.want {
			t.Errorf("1.8: Clamp(%d, %d, %d) = %d, want %d", c.x, c.low, c.high, got, c.want)
		}
		if got := money.Clamp(days(c.x), days(c.low), days(c.high)); got != days(c.want) {
			t.Errorf("1.8: Clamp(%d, %d, %d) of days = %d, want %d", c.x, c.low, c.high, got, c.want)
		}
	}
	if got := money.Clamp(cents(10), 9, 3); got != cents(3) {
		t.Errorf("1.8: Clamp(10, 9, 3) of cents = %d, want 3", got)
	}
}
