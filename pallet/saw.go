package pallet

import (
	"iter"

	"testliner/api"
)

// saw finds how many boxes of a layer it can cut.
type saw struct {
	deck
	reach []int        // by length
	known map[size]cut // the best cut of rectangles, as far as it was found
}

// cut is where a rectangle is cut: across which side, and how far from the corner; and how many boxes lie in it. With less than two boxes it is not cut.
type cut struct{ side, at, boxes int }

// sawOf returns the saw of a deck.
func sawOf(d deck) saw {
	room := d.room()
	return saw{deck: d, reach: reaches(max(room[0], room[1]), d.box.Long, d.box.Wide), known: map[size]cut{}}
}

// reaches returns by length, up to the longest one, the greatest sum that is not above it of numbers that may come any number of times.
func reaches(longest int, numbers ...int) []int {
	reach := make([]int, longest+1)
	for long := range reach {
		for _, n := range numbers {
			if n <= long {
				reach[long] = max(reach[long], n+reach[long-n])
			}
		}
	}
	return reach
}

// used returns what boxes can use of a rectangle.
func (s saw) used(of size) size { return size{s.reach[of[0]], s.reach[of[1]]} }

// bound returns a number of boxes that no layer in a rectangle exceeds.
func (s saw) bound(of size) int {
	used := s.used(of)
	return used[0] * used[1] / s.area()
}

// best returns a cut of what boxes can use of a rectangle, after which the most boxes lie in it.
func (s saw) best(of size) cut {
	of = s.used(of)
	if best, found := s.known[of]; found {
		return best
	}
	best := cut{}
	if of.holds(s.sized(false)) || of.holds(s.sized(true)) {
		best.boxes = 1
	}
	most := s.bound(of)
	for side, at := range s.cuts(of) {
		if best.boxes == most {
			break
		}
		part, rest := of.split(side, at)
		if boxes := s.best(part).boxes + s.best(rest).boxes; boxes > best.boxes {
			best = cut{side, at, boxes}
		}
	}
	s.known[of] = best
	return best
}

// cuts yields where a rectangle can be cut. The shorter one of both parts can come first, and its boxes can be pushed together until it is no longer than they need: so no other cuts are needed.
func (s saw) cuts(of size) iter.Seq2[int, int] {
	return func(yield func(side, at int) bool) {
		for side, long := range of {
			for at := 1; at <= long/2; at++ {
				if s.reach[at] == at && !yield(side, at) {
					return
				}
			}
		}
	}
}

// split returns the two parts of a rectangle that is cut.
func (s size) split(side, at int) (part, rest size) {
	part, rest = s, s
	part[side] = at
	rest[side] -= at
	return part, rest
}

// places yields the places of a layer with the most boxes in a rectangle that lies at a corner.
func (s saw) places(corner, of size) iter.Seq[api.PalletPlace] {
	return func(yield func(api.PalletPlace) bool) {
		of := s.used(of)
		best := s.best(of)
		switch best.boxes {
		case 0:
		case 1:
			yield(api.PalletPlace{X: corner[0], Y: corner[1], Turned: !of.holds(s.sized(false))})
		default:
			part, rest := of.split(best.side, best.at)
			next := corner
			next[best.side] += best.at
			all(s.places(corner, part), s.places(next, rest))(yield)
		}
	}
}

// all yields the places of several layers.
func all(layers ...iter.Seq[api.PalletPlace]) iter.Seq[api.PalletPlace] {
	return func(yield func(api.PalletPlace) bool) {
		for _, layer := range layers {
			for p := range layer {
				if !yield(p) {
					return
				}
			}
		}
	}
}
