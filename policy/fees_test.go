package policy_test

import (
	"math/big"
	"math/rand"
	"testing"

	"arrears/api"
	"arrears/policy"
)

// feeRule is the policy of the examples with other numbers for the late fee.
func feeRule(rate, low, high int64) api.Policy {
	return with(func(p *api.Policy) { p.LateRate, p.LateMin, p.LateMax = rate, low, high })
}

// capped is a policy under which the fee is the amount itself, but for the caps.
func capped(cycle, life int64) api.Policy {
	p := feeRule(10000, 0, 1000000000)
	p.CycleCap, p.LifeCap = cycle, life
	return p
}

// 12.2: an amount below 0 makes no fee, whatever the least one is.
func TestNoFeeBelowZero(t *testing.T) {
	for _, p := range []api.Policy{example(), feeRule(0, 1, 1), feeRule(10000, 0, 1000000000), feeRule(500, 1000000000, 1000000000)} {
		for _, amount := range []int64{-1, -2, -100000, -most, least} {
			charges(t, p, amount, 0)
			assesses(t, p, amount, 0, 0, 0)
			assesses(t, p, amount, most, least, 0)
		}
		charges(t, p, 0, p.LateMin)
	}
}

// 12.2: halves go to the even cent.
func TestHalvesOfACent(t *testing.T) {
	p := feeRule(5000, 0, 1000000000)
	for amount := range int64(40) {
		want := amount / 2
		if amount%2 == 1 && want%2 == 1 {
			want++
		}
		charges(t, p, amount, want)
	}
	p = feeRule(1, 0, 1000000000)
	for i, amount := range []int64{4999, 5000, 5001, 9999, 14999, 15000, 15001, 25000, 25001, 35000} {
		charges(t, p, amount, []int64{0, 0, 1, 1, 1, 2, 2, 2, 3, 4}[i])
	}
}

// 12.2: the fee at its least and at its greatest, a cent to each side.
func TestFeeAtItsEnds(t *testing.T) {
	p := feeRule(10000, 1500, 10000)
	for _, c := range [][2]int64{{0, 1500}, {1, 1500}, {1499, 1500}, {1500, 1500}, {1501, 1501}, {9999, 9999}, {10000, 10000}, {10001, 10000}, {most, 10000}} {
		charges(t, p, c[0], c[1])
	}
	for _, amount := range []int64{0, 1, 7, 100000, most} {
		charges(t, feeRule(10000, 7, 7), amount, 7)
		charges(t, feeRule(0, 3, 1000000000), amount, 3)
		charges(t, feeRule(10000, 0, 0), amount, 0)
		charges(t, feeRule(0, 0, 1000000000), amount, 0)
	}
}

// modelFee is 12.2 in numbers without an end.
func modelFee(p api.Policy, amount int64) int64 {
	if amount < 0 {
		return 0
	}
	product := new(big.Int).Mul(big.NewInt(amount), big.NewInt(p.LateRate))
	fee, rest := product.QuoRem(product, big.NewInt(10000), new(big.Int))
	if r := rest.Int64(); r > 5000 || r == 5000 && fee.Bit(0) == 1 {
		fee.Add(fee, big.NewInt(1))
	}
	if fee.Cmp(big.NewInt(p.LateMin)) < 0 {
		return p.LateMin
	}
	if fee.Cmp(big.NewInt(p.LateMax)) > 0 {
		return p.LateMax
	}
	return fee.Int64()
}

// modelRoom is 12.3's room, by its three cases.
func modelRoom(limit, used int64) int64 {
	switch {
	case used <= 0:
		return limit
	case used >= limit:
		return 0
	}
	return limit - used
}

// anyAmount is now and then an edge, or below 0.
func anyAmount(random *rand.Rand) int64 {
	switch random.Intn(8) {
	case 0:
		return random.Int63()
	case 1:
		return most - random.Int63n(3)
	case 2:
		return -random.Int63n(5)
	case 3:
		return least + random.Int63n(3)
	case 4:
		return random.Int63n(30)
	}
	return random.Int63n(3000000000)
}

// anyFee is a number that a fee or a cap of a policy may be.
func anyFee(random *rand.Rand) int64 {
	switch random.Intn(4) {
	case 0:
		return random.Int63n(3)
	case 1:
		return 1000000000 - random.Int63n(3)
	}
	return random.Int63n(1000000001)
}

// about is a number near another one, or any amount.
func about(random *rand.Rand, n int64) int64 {
	if random.Intn(2) == 0 {
		return n - 2 + random.Int63n(5)
	}
	return anyAmount(random)
}

// 12.2, 12.3: held against the models.
func TestFeesAsTheModels(t *testing.T) {
	random := rand.New(rand.NewSource(123))
	seen := [5]int{}
	for range 200000 {
		low := anyFee(random)
		p := feeRule(random.Int63n(10001), low, low+random.Int63n(1000000001-low))
		p.CycleCap, p.LifeCap = anyFee(random), anyFee(random)
		amount, cycle, life := anyAmount(random), about(random, p.CycleCap), about(random, p.LifeCap)
		fee, inCycle, inLife := modelFee(p, amount), modelRoom(p.CycleCap, cycle), modelRoom(p.LifeCap, life)
		charges(t, p, amount, fee)
		assesses(t, p, amount, cycle, life, min(fee, inCycle, inLife))
		if t.Failed() {
			return
		}
		switch {
		case min(fee, inCycle, inLife) == 0:
			seen[0]++
		case fee < min(inCycle, inLife):
			seen[1]++
		case inCycle < min(fee, inLife):
			seen[2]++
		case inLife < min(fee, inCycle):
			seen[3]++
		default:
			seen[4]++
		}
	}
	if min(seen[0], seen[1], seen[2], seen[3]) < 1000 {
		t.Errorf("too few of a kind: %v", seen)
	}
}

// 12.3: the room of each of the caps, about 0 and about the cap, beside another that leaves all.
func TestRoomOfEachCap(t *testing.T) {
	const amount = 100
	for _, limit := range []int64{0, 1, 2, 50, 99, 100, 101, 1000000000} {
		for _, used := range []int64{least, -1, 0, 1, 2, limit - 101, limit - 100, limit - 99, limit - 2, limit - 1, limit, limit + 1, most} {
			want := min(amount, modelRoom(limit, used))
			assesses(t, capped(limit, 1000000000), amount, used, 0, want)
			assesses(t, capped(1000000000, limit), amount, 0, used, want)
			assesses(t, capped(limit, limit), amount, used, used, want)
			assesses(t, capped(limit, 1000000000), amount, used, most, 0)
			assesses(t, capped(1000000000, limit), amount, most, used, 0)
		}
	}
}

// 12.3: a cap may leave less than the least late fee.
func TestCapsGoAheadOfTheLeastFee(t *testing.T) {
	p := feeRule(500, 1500, 10000)
	p.CycleCap, p.LifeCap = 1000, 1200
	assesses(t, p, 0, 0, 0, 1000)
	assesses(t, p, 0, 400, 400, 600)
	assesses(t, p, 0, 0, 1100, 100)
	assesses(t, p, 0, 999, 0, 1)
}

// 12.3: fees that are assessed one behind the other fill both caps to the cent and go beyond neither.
func TestFeesStayWithinTheCaps(t *testing.T) {
	random := rand.New(rand.NewSource(1234))
	for range 300 {
		p := example()
		p.CycleCap, p.LifeCap = random.Int63n(60000), random.Int63n(120000)
		var life int64
		for range 4 {
			var cycle int64
			room := min(p.CycleCap, p.LifeCap-life)
			for range 60 {
				fee := policy.Assess(p, random.Int63n(300000), cycle, life)
				cycle, life = cycle+fee, life+fee
			}
			// The least late fee of 1500 times 60 is above every cap of a cycle here.
			if cycle != room || cycle > p.CycleCap || life > p.LifeCap {
				t.Fatalf("12.3: fees of %d in a cycle and %d in all, with caps of %d and %d", cycle, life, p.CycleCap, p.LifeCap)
			}
		}
	}
}
