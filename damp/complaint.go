package damp

import (
	"slices"

	"testliner/api"
	"testliner/sets"
)

// allSigns is the set of all signs, as bits.
const allSigns = 1<<api.MaxDampSigns - 1

// found is what was found where it was looked for: the signs that were seen, and those that are missing. Sets of signs are bits.
type found struct{ seen, missing int }

// sees returns what was found with a sign more that was seen, misses with one more that is missing.
func (f found) sees(sign int) found {
	f.seen |= 1 << sign
	return f
}

func (f found) misses(sign int) found {
	f.missing |= 1 << sign
	return f
}

// complaint is what was found, and the causes that it can have.
type complaint struct {
	found
	causes []api.DampCause
}

// explained reports whether the causes of some numbers explain the complaint.
func (c complaint) explained(numbers ...int) bool {
	must, may := 0, 0
	for _, number := range numbers {
		must |= c.causes[number].Must
		may |= c.causes[number].May
	}
	return c.seen&^(must|may) == 0 && c.missing&must == 0
}

// fewest returns the lists of as few causes as can explain the complaint, ascending; none if no causes explain it.
func (c complaint) fewest() [][]int {
	// By how many causes they have, the lists that explain it.
	of := map[int][][]int{}
	for _, list := range sets.Of(len(c.causes)) {
		if c.explained(list...) {
			of[len(list)] = append(of[len(list)], list)
		}
	}
	for many := range len(c.causes) + 1 {
		if len(of[many]) > 0 {
			return of[many]
		}
	}
	return nil
}

// next returns the first sign that was not looked for with which the fewest of some lists can be left, whatever is found, and how many; all of them if there is no sign by which fewer are left.
func (c complaint) next(lists ...[]int) (sign, left int) {
	left = len(lists)
	for other := range sets.Members(allSigns &^ (c.seen | c.missing)) {
		if greater := max(c.left(c.sees(other), lists...), c.left(c.misses(other), lists...)); greater < left {
			sign, left = other, greater
		}
	}
	return sign, left
}

// left returns how many of some lists of causes explain the complaint if something else was found.
func (c complaint) left(f found, lists ...[]int) int {
	c.found = f
	left := 0
	for _, list := range lists {
		if c.explained(list...) {
			left++
		}
	}
	return left
}

// common returns the causes that are in all lists, of which there is one at least.
func common(lists ...[]int) []int {
	var all []int
	for _, cause := range lists[0] {
		without := func(list []int) bool { return !slices.Contains(list, cause) }
		if !slices.ContainsFunc(lists, without) {
			all = append(all, cause)
		}
	}
	return all
}
