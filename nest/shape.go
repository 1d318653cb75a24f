package nest

import (
	"cmp"
	"iter"
	"slices"

	"testliner/api"
	"testliner/span"
)

// set is some cells.
type set map[api.NestCell]bool

// setOf returns the set of some cells.
func setOf(cells ...api.NestCell) set {
	s := set{}
	for _, c := range cells {
		s[c] = true
	}
	return s
}

// meets reports whether one of some cells is in a set.
func (s set) meets(cells ...api.NestCell) bool {
	return slices.ContainsFunc(cells, func(c api.NestCell) bool { return s[c] })
}

// lie reports whether all of some cells lie on a rectangle.
func lie(on api.Size, cells ...api.NestCell) bool {
	return !slices.ContainsFunc(cells, func(c api.NestCell) bool {
		return !span.Within(0, on.Long-1, c.X) || !span.Within(0, on.Wide-1, c.Y)
	})
}

// compare returns how a cell is compared with another one.
func compare(a, b api.NestCell) int {
	return cmp.Or(cmp.Compare(a.Y, b.Y), cmp.Compare(a.X, b.X))
}

// ascend reports whether cells ascend strictly.
func ascend(cells ...api.NestCell) bool {
	for i := range len(cells) - 1 {
		if compare(cells[i], cells[i+1]) >= 0 {
			return false
		}
	}
	return true
}

// corner returns the least X and the least Y of some cells.
func corner(cells ...api.NestCell) api.NestCell {
	least := cells[0]
	for _, c := range cells {
		least.X, least.Y = min(least.X, c.X), min(least.Y, c.Y)
	}
	return least
}

// size returns how long and how wide the rectangle around some cells is.
func size(cells ...api.NestCell) api.Size {
	least, most := corner(cells...), cells[0]
	for _, c := range cells {
		most.X, most.Y = max(most.X, c.X), max(most.Y, c.Y)
	}
	return api.Size{Long: most.X - least.X + 1, Wide: most.Y - least.Y + 1}
}

// beside returns the cells that have a side in common with a cell.
func beside(c api.NestCell) [4]api.NestCell {
	return [4]api.NestCell{{X: c.X, Y: c.Y - 1}, {X: c.X - 1, Y: c.Y}, {X: c.X + 1, Y: c.Y}, {X: c.X, Y: c.Y + 1}}
}

// hang reports whether from each of some cells, none of them twice, each other one is reached by steps over sides.
func hang(cells ...api.NestCell) bool {
	left := setOf(cells[1:]...)
	reached := []api.NestCell{cells[0]}
	for i := 0; i < len(reached); i++ {
		for _, next := range beside(reached[i]) {
			if left[next] {
				delete(left, next)
				reached = append(reached, next)
			}
		}
	}
	return len(left) == 0
}

// moved returns cells that were moved.
func moved(by api.NestCell, cells ...api.NestCell) []api.NestCell {
	away := slices.Clone(cells)
	for i := range away {
		away[i].X += by.X
		away[i].Y += by.Y
	}
	return away
}

// turned returns a shape after a turn.
func turned(turn int, shape ...api.NestCell) []api.NestCell {
	cells := slices.Clone(shape)
	for i, c := range cells {
		if turn >= 4 {
			c.X = -c.X
		}
		for range turn % 4 {
			c.X, c.Y = -c.Y, c.X
		}
		cells[i] = c
	}
	least := corner(cells...)
	cells = moved(api.NestCell{X: -least.X, Y: -least.Y}, cells...)
	slices.SortFunc(cells, compare)
	return cells
}

// afterTurns returns a shape after each turn.
func afterTurns(shape ...api.NestCell) (after [turnings][]api.NestCell) {
	for turn := range after {
		after[turn] = turned(turn, shape...)
	}
	return after
}

// turns returns the turns that a way allows and that make different shapes.
func turns(way api.NestWay, shape ...api.NestCell) []int {
	var different []int
	after := afterTurns(shape...)
	for turn := range turnings {
		again := slices.ContainsFunc(different, func(before int) bool { return slices.Equal(after[before], after[turn]) })
		if allows(way, turn) && !again {
			different = append(different, turn)
		}
	}
	return different
}

// places yields all places with some turns that are moved by numbers of a span along X and along Y, in ascending order.
func places(turns []int, x, y api.Span) iter.Seq[api.NestPlace] {
	return func(yield func(api.NestPlace) bool) {
		for down := y.Low; down <= y.High; down++ {
			for along := x.Low; along <= x.High; along++ {
				for _, turn := range turns {
					if !yield(api.NestPlace{Turn: turn, X: along, Y: down}) {
						return
					}
				}
			}
		}
	}
}

// pitch returns the least number from 0 on such that b, moved by it and down, has no cell in common with a.
func pitch(a, b []api.NestCell, down int) int {
	taken, along := setOf(a...), 0
	for taken.meets(moved(api.NestCell{X: along, Y: down}, b...)...) {
		along++
	}
	return along
}

// pair returns how the second one of two like shapes lies so that the rectangle around both is the smallest.
func pair(way api.NestWay, shape ...api.NestCell) api.NestPair {
	var best api.NestPair
	first, after := setOf(shape...), afterTurns(shape...)
	// Farther apart there would be a gap between them.
	near := api.Span{Low: -api.MaxNestSide, High: api.MaxNestSide}
	for p := range places(turns(way, shape...), near, near) {
		second := moved(api.NestCell{X: p.X, Y: p.Y}, after[p.Turn]...)
		both := size(slices.Concat(shape, second)...)
		// Places ascend, so of those with rectangles of the same size the first one stays.
		if (best.Long == 0 || smaller(both, best.Size)) && !first.meets(second...) {
			best = api.NestPair{NestPlace: p, Size: both}
		}
	}
	return best
}

// smaller reports whether a rectangle comes before another one: by its area, and then by Long.
func smaller(a, b api.Size) bool {
	return cmp.Or(cmp.Compare(a.Long*a.Wide, b.Long*b.Wide), cmp.Compare(a.Long, b.Long)) < 0
}
