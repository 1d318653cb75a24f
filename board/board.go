// Package board finds what boards weigh, measure, cost and use, how strong they are, which of a store's boards meets a wish best, which of them a sample can be, and the codes of boards (chapter 1).
package board

import (
	"slices"

	"testliner/api"
	"testliner/reckon"
	"testliner/span"
)

// Check returns the error of a store.
func Check(s api.BoardStore) api.Errno {
	if len(s.Papers) > api.MaxBoardPapers || len(s.Flutes) > api.MaxBoardKinds {
		return api.ErrLong
	}
	if len(s.Papers) == 0 || len(s.Flutes) == 0 {
		return api.ErrArg
	}
	if !every(s.Papers, goodPaper) || !every(s.Flutes, goodFlute) {
		return api.ErrArg
	}
	return api.OK
}

// Made returns the error of a board.
func Made(s api.BoardStore, b api.BoardMake) api.Errno {
	if e := Check(s); e != api.OK {
		return e
	}
	if !formed(b) {
		return api.ErrForm
	}
	if !numbered(b, len(s.Papers), len(s.Flutes)) {
		return api.ErrNone
	}
	for place, paper := range b.Papers {
		if s.Papers[paper].Kind != kindAt(place) {
			return api.ErrArg
		}
	}
	return api.OK
}

// Weigh returns the dry weight of a board.
func Weigh(s api.BoardStore, b api.BoardMake) (api.Ratio, api.Errno) {
	if e := Made(s, b); e != api.OK {
		return api.Ratio{}, e
	}
	return lay(s, b).weight(), api.OK
}

// Measure returns the moist weight and the caliper of a board.
func Measure(s api.BoardStore, b api.BoardMake) (weight, caliper api.Span, e api.Errno) {
	if e = Made(s, b); e != api.OK {
		return api.Span{}, api.Span{}, e
	}
	weight, caliper = lay(s, b).measure()
	return weight, caliper, api.OK
}

// Strength returns how strong a board is.
func Strength(s api.BoardStore, b api.BoardMake) (int, api.Errno) {
	if e := Made(s, b); e != api.OK {
		return 0, e
	}
	return lay(s, b).strength(), api.OK
}

// Cost returns what 1000 square metres of a board cost.
func Cost(s api.BoardStore, b api.BoardMake) (int, api.Errno) {
	if e := Made(s, b); e != api.OK {
		return 0, e
	}
	return lay(s, b).cost(), api.OK
}

// Use returns how many grams of each paper of the store are in an area of a board.
func Use(s api.BoardStore, b api.BoardMake, area int) ([]api.Ratio, api.Errno) {
	if e := Made(s, b); e != api.OK {
		return nil, e
	}
	if !span.Within(0, api.MaxBoardArea, area) {
		return nil, api.ErrRange
	}
	x := lay(s, b)
	use := make([]api.Ratio, 0, len(s.Papers))
	for number, paper := range s.Papers {
		use = append(use, reckon.Lowest(area*paper.Weight*x.used[number], x.parts))
	}
	return use, api.OK
}

// Meets reports whether a board meets a wish.
func Meets(s api.BoardStore, b api.BoardMake, w api.BoardWish) (bool, api.Errno) {
	if e := Made(s, b); e != api.OK {
		return false, e
	}
	if !goodWish(w) {
		return false, api.ErrArg
	}
	return lay(s, b).meets(w), api.OK
}

// goodPaper reports whether a paper is valid.
func goodPaper(p api.BoardPaper) bool {
	return (p.Kind == api.BoardLiner || p.Kind == api.BoardMedium) &&
		span.Within(1, api.MaxBoardWeight, p.Weight) &&
		span.Valid(1, api.MaxBoardThick, p.Thick) &&
		span.Valid(0, api.MaxBoardMoist, p.Moist) &&
		span.Within(0, api.MaxBoardPrice, p.Price) &&
		span.Within(0, api.MaxBoardStrong, p.Strong)
}

// goodFlute reports whether a flute is valid.
func goodFlute(f api.BoardFlute) bool {
	return span.Within(api.MinBoardPitch, api.MaxBoardPitch, f.Pitch) &&
		span.Within(f.Pitch, 2*f.Pitch, f.Draw) &&
		span.Valid(1, api.MaxBoardHigh, f.High)
}

// goodWish reports whether a wish is valid.
func goodWish(w api.BoardWish) bool {
	return span.Valid(0, api.MaxBoardSample, w.Caliper) &&
		span.Within(0, api.MaxBoardSample, w.Strong, w.Weight)
}

// formed reports whether a board has as many flutes and papers as there may be.
func formed(b api.BoardMake) bool {
	return span.Within(1, api.MaxBoardFlutes, len(b.Flutes)) && len(b.Papers) == 2*len(b.Flutes)+1
}

// numbered reports whether a board has just the numbers of so many papers and flutes.
func numbered(b api.BoardMake, papers, flutes int) bool {
	return span.Within(0, papers-1, b.Papers...) && span.Within(0, flutes-1, b.Flutes...)
}

// kindAt returns which kind of paper lies at a place of a board.
func kindAt(place int) api.BoardKind {
	if place%2 == 0 {
		return api.BoardLiner
	}
	return api.BoardMedium
}

// every reports whether all elements of a list fulfil a condition.
func every[T any](list []T, holds func(T) bool) bool {
	return !slices.ContainsFunc(list, func(x T) bool { return !holds(x) })
}
