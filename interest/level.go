package interest

import "math"

// Level is the least payment that pays a principal off in so many months.
func Level(principal, rate int64, count int) (int64, bool) {
	if principal < 1 || !isRate(rate) || !isCount(count) {
		return 0, false
	}
	return least(math.MaxInt64, func(payment int64) bool {
		return paysOff(principal, rate, count, payment)
	})
}

// least is the least number from 1 to most of which holds tells true, refused if there is none. Halving the range needs that holds, once true, stays true for every greater number.
func least(most int64, holds func(int64) bool) (int64, bool) {
	if !holds(most) {
		return 0, false
	}
	low, high := int64(1), most
	for low < high {
		middle := low + (high-low)/2
		if holds(middle) {
			high = middle
		} else {
			low = middle + 1
		}
	}
	return low, true
}

// paysOff tells whether a monthly payment brings a balance above 0 to 0 in at most count months.
func paysOff(balance, rate int64, count int, payment int64) bool {
	for range count {
		earned, _ := Month(balance, rate)
		// Balance plus earned could leave int64; what the payment takes off the balance can't.
		part := payment - earned
		if part <= 0 {
			return false
		}
		if part >= balance {
			return true
		}
		balance -= part
	}
	return false
}
