package board

import (
	"testliner/api"
	"testliner/reckon"
)

// sheet is a board with the store of which it is made, and with how many square metres of each paper lie in one of the board.
type sheet struct {
	api.BoardMake
	store api.BoardStore
	// A square metre is split into parts, as many for all papers, so that sums stay exact integers up to the end.
	parts int
	used  map[int]int
}

// lay returns the sheet of a board that is made of a store.
func lay(s api.BoardStore, b api.BoardMake) sheet {
	x := sheet{BoardMake: b, store: s, parts: 1, used: map[int]int{}}
	for i := range len(x.Flutes) {
		x.parts *= x.flute(i).Pitch
	}
	for place, paper := range x.Papers {
		x.used[paper] += x.take(place)
	}
	return x
}

// flute returns the flute at a place among the flutes of the board.
func (x sheet) flute(i int) api.BoardFlute {
	return x.store.Flutes[x.Flutes[i]]
}

// take returns how many parts of a square metre of paper the board takes up at a place.
func (x sheet) take(place int) int {
	if kindAt(place) == api.BoardLiner {
		return x.parts
	}
	f := x.flute(place / 2)
	return x.parts / f.Pitch * f.Draw
}

// total returns in parts what all papers of the board have together, if each has so much for a square metre of it.
func (x sheet) total(of func(api.BoardPaper) int) int {
	sum := 0
	for number, paper := range x.store.Papers {
		sum += of(paper) * x.used[number]
	}
	return sum
}

// weight returns the dry weight.
func (x sheet) weight() api.Ratio {
	return reckon.Lowest(x.total(func(p api.BoardPaper) int { return p.Weight }), x.parts)
}

// strength returns how strong the board is.
func (x sheet) strength() int {
	return x.total(func(p api.BoardPaper) int { return p.Strong }) / x.parts
}

// cost returns what 1000 square metres cost, rounded up.
func (x sheet) cost() int {
	return reckon.Up(x.total(func(p api.BoardPaper) int { return p.Weight * p.Price }), 1000*x.parts)
}

// measure returns the moist weight and the caliper over all truths: both rise with each number that is not known, so their ends come from the ends of those.
func (x sheet) measure() (weight, caliper api.Span) {
	low := func(s api.Span) int { return s.Low }
	high := func(s api.Span) int { return s.High }
	weight = api.Span{Low: x.moist(low), High: x.moist(high)}
	caliper = api.Span{Low: x.thick(low), High: x.thick(high)}
	return weight, caliper
}

// moist returns the moist weight if each moisture is at an end of its span.
func (x sheet) moist(end func(api.Span) int) int {
	return x.total(func(p api.BoardPaper) int { return p.Weight * (1000 + end(p.Moist)) }) / (1000 * x.parts)
}

// thick returns the caliper if each thickness and height is at an end of its span.
func (x sheet) thick(end func(api.Span) int) int {
	sum := 0
	for place, paper := range x.Papers {
		if kindAt(place) == api.BoardLiner {
			sum += end(x.store.Papers[paper].Thick)
		}
	}
	for i := range len(x.Flutes) {
		sum += end(x.flute(i).High)
	}
	return sum
}

// meets reports whether the board meets a wish.
func (x sheet) meets(w api.BoardWish) bool {
	weight := x.weight()
	_, caliper := x.measure()
	return w.Caliper.Low <= caliper.Low && caliper.High <= w.Caliper.High &&
		x.strength() >= w.Strong && weight.Num <= w.Weight*weight.Den
}
