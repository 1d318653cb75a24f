// Package sets tells which sets of numbers there are, and which numbers are in one, for the layers that try all of them.
package sets

import (
	"cmp"
	"iter"
	"math/bits"
	"slices"
)

// Members yields the numbers of a set that is kept as bits, ascending.
func Members(set int) iter.Seq[int] {
	return func(yield func(int) bool) {
		for left := set; left != 0; left &= left - 1 {
			if !yield(bits.TrailingZeros(uint(left))) {
				return
			}
		}
	}
}

// Of returns all sets of the numbers below one, as ascending lists: those with the fewest numbers first, and of these the smaller lists, each in memory of its own.
func Of(many int) [][]int {
	var all [][]int
	for set := range 1 << many {
		all = append(all, slices.Collect(Members(set)))
	}
	slices.SortFunc(all, func(a, b []int) int {
		return cmp.Or(cmp.Compare(len(a), len(b)), slices.Compare(a, b))
	})
	return all
}
