package crush

import (
	"slices"

	"testliner/api"
	"testliner/sets"
)

// pile is boxes that are to be put one on another, and how many thousandths of their strength they keep. Sets of boxes are bits.
type pile struct {
	boxes []api.CrushLoad
	keep  int
	// stands has the sets of boxes that surely stand in some order.
	stands map[int]bool
}

// pileOf returns the pile of boxes.
func pileOf(boxes []api.CrushLoad, keep int) pile {
	p := pile{boxes: boxes, keep: keep, stands: map[int]bool{0: true}}
	// A set comes after all sets that lie within it.
	for set := range p.all() + 1 {
		if _, found := p.lowest(set); found {
			p.stands[set] = true
		}
	}
	return p
}

// all returns the set of all boxes.
func (p pile) all() int { return 1<<len(p.boxes) - 1 }

// lowest returns the first box of a set that bears all others of it while these stand in some order.
func (p pile) lowest(set int) (box int, found bool) {
	for box := range sets.Members(set) {
		others := set &^ (1 << box)
		if p.stands[others] && p.weight(others) <= bears(p.boxes[box], p.keep) {
			return box, true
		}
	}
	return 0, false
}

// weight returns how heavy the boxes of a set are at most.
func (p pile) weight(set int) int {
	sum := 0
	for box := range sets.Members(set) {
		sum += p.boxes[box].Weight.High
	}
	return sum
}

// order returns the smallest order of all boxes, from the bottom up, in which they surely stand.
func (p pile) order() (order []int, found bool) {
	set := p.all()
	if !p.stands[set] {
		return nil, false
	}
	for set != 0 {
		box, _ := p.lowest(set)
		order = append(order, box)
		set &^= 1 << box
	}
	return order, true
}

// most returns the set of the most boxes that surely stand in some order, as a list; of several lists the smallest one.
func (p pile) most() []int {
	var best []int
	for set := range p.all() + 1 {
		if !p.stands[set] {
			continue
		}
		list := slices.Collect(sets.Members(set))
		if len(list) > len(best) || len(list) == len(best) && slices.Compare(list, best) < 0 {
			best = list
		}
	}
	return best
}
