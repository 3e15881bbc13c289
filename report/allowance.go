package report

import (
	"arrears/api"
	"arrears/loan"
	"arrears/money"
)

// whole is the rate, in basis points, by which all of an exposure is set aside.
const whole = 10000

// ratesMayBe tells whether each rate is a part of the whole.
func ratesMayBe(rates [buckets]int64) bool {
	for _, rate := range rates {
		if rate < 0 || rate > whole {
			return false
		}
	}
	return true
}

// exposures are the loans' exposures, added up bucket by bucket, if these sums fit.
func exposures(p api.Policy, loans []api.Loan) ([buckets]int64, bool) {
	var sums [buckets]int64
	for _, l := range loans {
		class := Class(p, l)
		if class >= buckets {
			continue
		}
		amount, amountFits := exposure(loan.Look(p, l))
		sum, sumFits := money.Add(sums[class], amount)
		if !amountFits || !sumFits {
			return [buckets]int64{}, false
		}
		sums[class] = sum
	}
	return sums, true
}

// exposure is what could be lost of a loan that looks so. What is in suspense never was income, and so is no loss.
func exposure(v api.View) (int64, bool) {
	// Suspense can have its sign turned: the ledger tells no balance of a credit account that is the least int64.
	amount, ok := money.Sum([]int64{v.Fees, v.Interest, v.Principal, -v.Suspense})
	return max(amount, 0), ok
}
