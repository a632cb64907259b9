package money

import (
	"cmp"
	"slices"
)

// shares returns the parts of a total that is not negative, by weights whose sum is whole.
func shares(total int, weights []int, whole int) []int {
	l := make([]int, len(weights))
	remainders := make([]int, len(weights))
	order := make([]int, len(weights))
	left := total
	for i, weight := range weights {
		// The product fits: MaxMoney * MaxWeight is less than 2^62.
		l[i], remainders[i], order[i] = total*weight/whole, total*weight%whole, i
		left -= l[i]
	}
	// Stable, as of parts with the same remainder the earlier one comes first.
	slices.SortStableFunc(order, func(i, j int) int { return cmp.Compare(remainders[j], remainders[i]) })
	for _, i := range order[:left] {
		l[i]++
	}
	return l
}

// opposites changes the signs of l, and returns it.
func opposites(l []int) []int {
	for i := range l {
		l[i] = -l[i]
	}
	return l
}
