package crush

import (
	"iter"
	"sort"

	"testliner/api"
)

// whole is all thousandths of a strength.
const whole = 1000

// strength returns how strong a box is with a true edge and a true caliper.
func strength(b api.CrushBox, edge, caliper int) int {
	return edge * root(caliper*b.Around) * b.Rule / 100000
}

// root returns the greatest integer whose square is at most n.
func root(n int) int {
	return sort.Search(n, func(r int) bool { return (r+1)*(r+1) > n })
}

// loads yields the boxes of a stack, from the bottom up, each with its load over all truths.
func loads(stack []api.CrushLoad) iter.Seq2[int, api.Span] {
	return func(yield func(int, api.Span) bool) {
		load := api.Span{}
		for _, box := range stack {
			load.Low += box.Weight.Low
			load.High += box.Weight.High
		}
		for place, box := range stack {
			load.Low -= box.Weight.Low
			load.High -= box.Weight.High
			if !yield(place, load) {
				return
			}
		}
	}
}

// weak returns the lowest box of a stack that does not hold in some truth while boxes keep so many thousandths of their strength.
func weak(stack []api.CrushLoad, keep int) (box int, found bool) {
	for place, load := range loads(stack) {
		if load.High > bears(stack[place], keep) {
			return place, true
		}
	}
	return 0, false
}

// bears returns what a box surely bears while it keeps so many thousandths of its strength.
func bears(box api.CrushLoad, keep int) int {
	return box.Strength.Low * keep / whole
}

// until returns the steps of a table that count on some day up to the last one.
func until(keep []api.CrushStep, days int) []api.CrushStep {
	return keep[:sort.Search(len(keep), func(i int) bool { return keep[i].Day > days })]
}

// last returns how many thousandths of their strength boxes keep on the last day. As they never become stronger, what stands then stands on all days before.
func last(keep []api.CrushStep, days int) int {
	steps := until(keep, days)
	return steps[len(steps)-1].Keep
}
