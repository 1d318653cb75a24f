package crush

import (
	"iter"
	"slices"

	"testliner/api"
)

// gauge is a gauge that is wrong by at most off.
type gauge struct{ off int }

// lot is a lot with its rule, its gauge, and what the gauge read in its first tests.
type lot struct {
	api.CrushRule
	gauge
	readings []int
}

// truth returns what can be true of a reading.
func (g gauge) truth(reading int) api.Span {
	return api.Span{Low: max(0, reading-g.off), High: min(api.MaxCrushRead, reading+g.off)}
}

// odd returns the fewest readings without which the others can be as close as spread, and of several such lists the smallest one.
func (g gauge) odd(readings []int, spread int) []int {
	var best []int
	for i, reading := range readings {
		// Readings that can be as close as spread reach a window that begins at the least of their greatest truths, so one of these windows has the most.
		from := g.truth(reading).High
		left := except(readings, func(other int) bool {
			truth := g.truth(other)
			return truth.High >= from && truth.Low <= from+spread
		})
		if i == 0 || len(left) < len(best) || len(left) == len(best) && slices.Compare(left, best) < 0 {
			best = left
		}
	}
	return best
}

// except returns the places of the numbers that do not fulfil a condition.
func except(numbers []int, holds func(int) bool) []int {
	var places []int
	for place, n := range numbers {
		if !holds(n) {
			places = append(places, place)
		}
	}
	return places
}

// state returns what is known of the lot after some readings more.
func (x lot) state(more ...int) api.CrushState {
	// The least truths of all tests are the worst ones for the sum and for what is bad, the greatest ones the best for both.
	if x.passes(func(truth api.Span) int { return truth.Low }, more...) {
		return api.CrushPass
	}
	if x.passes(func(truth api.Span) int { return truth.High }, more...) {
		return api.CrushOpen
	}
	return api.CrushFail
}

// passes reports whether the lot passes after some readings more if the truth of each test is at an end of what it can be.
func (x lot) passes(end func(api.Span) int, more ...int) bool {
	sum, bad := 0, 0
	for truth := range x.truths(more...) {
		n := end(truth)
		sum += n
		if n < x.Low {
			bad++
		}
		if bad > x.Bad {
			return false
		}
	}
	return sum >= x.Tests*x.Mean
}

// truths yields what can be true of each test after some readings more.
func (x lot) truths(more ...int) iter.Seq[api.Span] {
	made := slices.Concat(x.readings, more)
	return func(yield func(api.Span) bool) {
		for test := range x.Tests {
			truth := api.Span{Low: 0, High: api.MaxCrushRead}
			if test < len(made) {
				truth = x.truth(made[test])
			}
			if !yield(truth) {
				return
			}
		}
	}
}

// need returns the least number of tests more that put the lot into a state if all of them read the same, or -1 if there is none.
func (x lot) need(state api.CrushState, reading int) int {
	for many := range x.Tests - len(x.readings) + 1 {
		if x.state(slices.Repeat([]int{reading}, many)...) == state {
			return many
		}
	}
	return -1
}
