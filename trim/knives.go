package trim

import "testliner/api"

// costs are what it costs, for each number of the first places, to move some knives to these places.
type costs [api.MaxTrimKnives + 1]int

// change returns what it costs at least to move all knives to other places.
func change(from, to []int) int {
	var before costs
	for place := range to {
		before[place+1] = before[place] + api.MaxTrimPark
	}
	for _, knife := range from {
		before = before.with(knife, to)
	}
	return before[len(to)]
}

// with returns the costs with one knife more, which is right of those before: it goes to the last place, or it is parked, or another one is put at the last place.
func (c costs) with(knife int, to []int) costs {
	var more costs
	more[0] = c[0] + api.MaxTrimPark
	for i, place := range to {
		moved := max(knife-place, place-knife)
		more[i+1] = min(c[i]+moved, c[i+1]+api.MaxTrimPark, more[i]+api.MaxTrimPark)
	}
	return more
}
