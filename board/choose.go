package board

import (
	"iter"
	"slices"

	"testliner/api"
	"testliner/span"
)

// Best returns the lightest board, or the one that costs least, of those that meet a wish.
func Best(s api.BoardStore, w api.BoardWish, by api.BoardBy) (api.BoardMake, api.Errno) {
	if e := Check(s); e != api.OK {
		return api.BoardMake{}, e
	}
	if !goodWish(w) || by != api.BoardByWeight && by != api.BoardByCost {
		return api.BoardMake{}, api.ErrArg
	}
	best := api.BoardMake{}
	var least api.Ratio
	for x := range boards(s) {
		if !x.meets(w) {
			continue
		}
		// Boards come in ascending order, so of equally good ones the first stays.
		if value := x.value(by); len(best.Papers) == 0 || below(value, least) {
			best, least = x.BoardMake, value
		}
	}
	if len(best.Papers) == 0 {
		return api.BoardMake{}, api.ErrNone
	}
	return best, api.OK
}

// Can returns all boards of a store that a sample can be.
func Can(s api.BoardStore, x api.BoardSample) ([]api.BoardMake, api.Errno) {
	if e := Check(s); e != api.OK {
		return nil, e
	}
	if !span.Valid(0, api.MaxBoardSample, x.Weight, x.Caliper) {
		return nil, api.ErrArg
	}
	var can []api.BoardMake
	for y := range boards(s) {
		weight, caliper := y.measure()
		if !meet(weight, x.Weight) || !meet(caliper, x.Caliper) {
			continue
		}
		if len(can) == api.MaxBoardCan {
			return nil, api.ErrFull
		}
		can = append(can, y.BoardMake)
	}
	return can, api.OK
}

// value returns by what a sheet is compared.
func (x sheet) value(by api.BoardBy) api.Ratio {
	if by == api.BoardByWeight {
		return x.weight()
	}
	return api.Ratio{Num: x.cost(), Den: 1}
}

// below reports whether a ratio is smaller than another one. Whole numbers decide first, because the product of a numerator and the other denominator might not fit.
func below(a, b api.Ratio) bool {
	if wholeA, wholeB := a.Num/a.Den, b.Num/b.Den; wholeA != wholeB {
		return wholeA < wholeB
	}
	return a.Num%a.Den*b.Den < b.Num%b.Den*a.Den
}

// meet reports whether two spans have an integer in common.
func meet(a, b api.Span) bool {
	return a.Low <= b.High && b.Low <= a.High
}

// boards yields the sheets of all boards of a store, in ascending order, each board in memory of its own.
func boards(s api.BoardStore) iter.Seq[sheet] {
	liners := places(s.Papers, func(p api.BoardPaper) bool { return p.Kind == api.BoardLiner })
	mediums := places(s.Papers, func(p api.BoardPaper) bool { return p.Kind == api.BoardMedium })
	flutes := places(s.Flutes, func(api.BoardFlute) bool { return true })
	return func(yield func(sheet) bool) {
		paperChoices, fluteChoices := [][]int{liners}, [][]int{}
		for range api.MaxBoardFlutes {
			paperChoices = append(paperChoices, mediums, liners)
			fluteChoices = append(fluteChoices, flutes)
			for papers := range lists(paperChoices...) {
				for chosen := range lists(fluteChoices...) {
					b := api.BoardMake{Papers: slices.Clone(papers), Flutes: chosen}
					if !yield(lay(s, b)) {
						return
					}
				}
			}
		}
	}
}

// places returns the places of the elements that fulfil a condition.
func places[T any](list []T, holds func(T) bool) []int {
	var at []int
	for i, x := range list {
		if holds(x) {
			at = append(at, i)
		}
	}
	return at
}

// lists yields all lists with one number of each choice, in ascending order if the choices ascend, each list in new memory.
func lists(choices ...[]int) iter.Seq[[]int] {
	return func(yield func([]int) bool) {
		many := 1
		for _, c := range choices {
			many *= len(c)
		}
		for number := range many {
			// The last place changes fastest, as the last digit of a number does.
			list := make([]int, len(choices))
			rest := number
			for place := len(choices) - 1; place >= 0; place-- {
				c := choices[place]
				list[place] = c[rest%len(c)]
				rest /= len(c)
			}
			if !yield(list) {
				return
			}
		}
	}
}
