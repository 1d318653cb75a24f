// Package orders tells in which orders things can come, for the layers that try all of them.
package orders

import (
	"iter"
	"slices"
)

// Of yields all orders of so many things, which are named by their numbers: in ascending order, each in new memory.
func Of(many int) iter.Seq[[]int] { return begun(many) }

// begun yields the orders that begin with some numbers.
func begun(many int, begin ...int) iter.Seq[[]int] {
	return func(yield func([]int) bool) {
		if len(begin) == many {
			yield(begin)
			return
		}
		for next := range many {
			if slices.Contains(begin, next) {
				continue
			}
			// No two orders begin in the same memory.
			for order := range begun(many, append(slices.Clone(begin), next)...) {
				if !yield(order) {
					return
				}
			}
		}
	}
}
