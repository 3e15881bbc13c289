package money

import (
	"cmp"
	"slices"
)

// maxParts is how many weights one Split takes.
const maxParts = 1000

// Split divides a total by weights.
func Split(total int64, weights []int64) ([]int64, bool) {
	all, ok := addWeights(weights)
	if total < 0 || !ok {
		return nil, false
	}
	parts := make([]int64, len(weights))
	rests := make([]int64, len(weights))
	missing := total
	for i, weight := range weights {
		// Never refused: no weight is above all, so no part is above total.
		parts[i], rests[i], _ = MulDivFloor(total, weight, all)
		missing -= parts[i]
	}
	for _, i := range greatestFirst(rests)[:missing] {
		parts[i]++
	}
	return parts, true
}

// addWeights is the sum of the weights, refused if Split may not divide by them.
func addWeights(weights []int64) (int64, bool) {
	if len(weights) > maxParts {
		return 0, false
	}
	for _, weight := range weights {
		if weight < 0 {
			return 0, false
		}
	}
	all, ok := Sum(weights)
	if !ok || all == 0 {
		return 0, false
	}
	return all, true
}

// greatestFirst is the places of the rests, the greatest rest's first, of equal ones the first's.
func greatestFirst(rests []int64) []int {
	places := make([]int, len(rests))
	for i := range places {
		places[i] = i
	}
	slices.SortStableFunc(places, func(i, j int) int {
		return cmp.Compare(rests[j], rests[i])
	})
	return places
}
