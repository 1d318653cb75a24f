package nest_test

import (
	"cmp"
	"math/rand"
	"slices"

	"testliner/api"
)

// c returns cells, by pairs of numbers, p a place, l a layout, and sheet a sheet with bad cells, by pairs of numbers.
func c(xy ...int) []api.NestCell {
	var cells []api.NestCell
	for i := 0; i+1 < len(xy); i += 2 {
		cells = append(cells, api.NestCell{X: xy[i], Y: xy[i+1]})
	}
	return cells
}

func p(turn, x, y int) api.NestPlace { return api.NestPlace{Turn: turn, X: x, Y: y} }

func l(places ...api.NestPlace) []api.NestPlace { return places }

func sheet(long, wide int, bad ...int) api.NestSheet {
	return api.NestSheet{Size: api.Size{Long: long, Wide: wide}, Bad: c(bad...)}
}

// ell is the shape L of the chapter, two and square are others of its examples, cup is a shape with a notch, and hook one that is the same after no turn and has no cell at 0, 0.
func ell() []api.NestCell { return c(0, 0, 0, 1, 0, 2, 1, 2) }

func two() []api.NestCell { return c(0, 0, 1, 0) }

func square() []api.NestCell { return c(0, 0, 1, 0, 0, 1, 1, 1) }

func cup() []api.NestCell { return c(0, 0, 2, 0, 0, 1, 1, 1, 2, 1) }

func hook() []api.NestCell { return c(1, 0, 2, 0, 0, 1, 1, 1, 1, 2) }

// block returns a full rectangle.
func block(long, wide int) []api.NestCell {
	var cells []api.NestCell
	for y := range wide {
		for x := range long {
			cells = append(cells, api.NestCell{X: x, Y: y})
		}
	}
	return cells
}

// ring returns the sheet of the chapter's fifth example, four the layout of the most shapes on it.
func ring() api.NestSheet { return sheet(3, 3, 1, 1) }

func four() []api.NestPlace { return l(p(0, 0, 0), p(1, 2, 0), p(1, 0, 1), p(0, 1, 2)) }

// ways returns all ways, that which allows the most first.
func ways() []api.NestWay { return []api.NestWay{api.NestAny, api.NestTurn, api.NestGrain} }

// compareCells compares cells, comparePlaces places.
func compareCells(a, b api.NestCell) int {
	return cmp.Or(cmp.Compare(a.Y, b.Y), cmp.Compare(a.X, b.X))
}

func comparePlaces(a, b api.NestPlace) int {
	return cmp.Or(cmp.Compare(a.Y, b.Y), cmp.Compare(a.X, b.X), cmp.Compare(a.Turn, b.Turn))
}

// some returns a number from low to high, pick one of some.
func some(r *rand.Rand, low, high int) int { return low + r.Intn(high-low+1) }

func pick[E any](r *rand.Rand, list ...E) E { return list[r.Intn(len(list))] }

// settled returns cells moved so that the least X and Y are 0, in ascending order.
func settled(cells []api.NestCell) []api.NestCell {
	x, y := cells[0].X, cells[0].Y
	for _, cell := range cells {
		x, y = min(x, cell.X), min(y, cell.Y)
	}
	var moved []api.NestCell
	for _, cell := range cells {
		moved = append(moved, api.NestCell{X: cell.X - x, Y: cell.Y - y})
	}
	slices.SortFunc(moved, compareCells)
	return moved
}

// someShape returns a shape of so many cells that is at most so long and wide, which leaves enough cells.
func someShape(r *rand.Rand, many, side int) []api.NestCell {
	cells := c(side/2, side/2)
	for len(cells) < many {
		next := pick(r, cells...)
		if r.Intn(2) == 0 {
			next.X += pick(r, -1, 1)
		} else {
			next.Y += pick(r, -1, 1)
		}
		if min(next.X, next.Y) >= 0 && max(next.X, next.Y) < side && !slices.Contains(cells, next) {
			cells = append(cells, next)
		}
	}
	return settled(cells)
}

// smallShapes returns all shapes of up to so many cells.
func smallShapes(many int) [][]api.NestCell {
	all := [][]api.NestCell{c(0, 0)}
	last := all
	for range many - 1 {
		var next [][]api.NestCell
		for _, shape := range last {
			for _, cell := range shape {
				for _, by := range c(1, 0, -1, 0, 0, 1, 0, -1) {
					more := api.NestCell{X: cell.X + by.X, Y: cell.Y + by.Y}
					if slices.Contains(shape, more) {
						continue
					}
					grown := settled(append(slices.Clone(shape), more))
					if !slices.ContainsFunc(next, func(s []api.NestCell) bool { return slices.Equal(s, grown) }) {
						next = append(next, grown)
					}
				}
			}
		}
		all, last = append(all, next...), next
	}
	return all
}

// someSheet returns a sheet of up to so many cells with up to so many bad ones.
func someSheet(r *rand.Rand, cells, bad int) api.NestSheet {
	for {
		s := sheet(some(r, 1, 8), some(r, 1, 8))
		if s.Long*s.Wide > cells {
			continue
		}
		all := block(s.Long, s.Wide)
		r.Shuffle(len(all), func(i, j int) { all[i], all[j] = all[j], all[i] })
		s.Bad = all[:min(len(all), r.Intn(bad+1))]
		return s
	}
}

// trueTurn returns what the chapter says of a turn, by where the cell x, y comes.
func trueTurn(shape []api.NestCell, turn int) []api.NestCell {
	var cells []api.NestCell
	for _, cell := range shape {
		x, y := cell.X, cell.Y
		cells = append(cells, c(x, y, -y, x, -x, -y, y, -x, -x, y, -y, -x, x, -y, y, x)[turn])
	}
	return settled(cells)
}

// allowedTurns returns the turns that a way allows.
func allowedTurns(way api.NestWay) []int {
	return [][]int{nil, {0, 1, 2, 3, 4, 5, 6, 7}, {0, 1, 2, 3}, {0, 2}}[way]
}

// trueTurns returns the turns that a way allows, without those after which the shape is the same as after a smaller one.
func trueTurns(shape []api.NestCell, way api.NestWay) []int {
	var list []int
	for _, turn := range allowedTurns(way) {
		same := false
		for _, before := range list {
			same = same || slices.Equal(trueTurn(shape, before), trueTurn(shape, turn))
		}
		if !same {
			list = append(list, turn)
		}
	}
	return list
}

// laid returns the cells of a shape at a place.
func laid(shape []api.NestCell, at api.NestPlace) []api.NestCell {
	cells := trueTurn(shape, at.Turn)
	for i := range cells {
		cells[i].X += at.X
		cells[i].Y += at.Y
	}
	return cells
}

// common reports whether two lists have a cell in common.
func common(a, b []api.NestCell) bool {
	return slices.ContainsFunc(a, func(cell api.NestCell) bool { return slices.Contains(b, cell) })
}

// around returns the size of the rectangle around cells.
func around(cells []api.NestCell) api.Size {
	s := api.Size{}
	for _, cell := range settled(cells) {
		s = api.Size{Long: max(s.Long, cell.X+1), Wide: max(s.Wide, cell.Y+1)}
	}
	return s
}

// onSheet reports whether a cell is on a sheet.
func onSheet(s api.NestSheet, cell api.NestCell) bool {
	return slices.Contains(block(s.Long, s.Wide), cell)
}

// rightAlone returns the places that are right alone, with turns that make different shapes, in ascending order.
func rightAlone(shape []api.NestCell, way api.NestWay, s api.NestSheet) []api.NestPlace {
	var list []api.NestPlace
	for _, turn := range trueTurns(shape, way) {
		for _, cell := range block(s.Long, s.Wide) {
			at := p(turn, cell.X, cell.Y)
			cells := laid(shape, at)
			size := around(cells)
			if cell.X+size.Long <= s.Long && cell.Y+size.Wide <= s.Wide && !common(cells, s.Bad) {
				list = append(list, at)
			}
		}
	}
	slices.SortFunc(list, comparePlaces)
	return list
}

// trueMost returns the smallest list of as many places as there can be, by trying them all.
func trueMost(shape []api.NestCell, way api.NestWay, s api.NestSheet) []api.NestPlace {
	var best, now []api.NestPlace
	var try func(left []api.NestPlace)
	try = func(left []api.NestPlace) {
		if len(now) > len(best) {
			best = slices.Clone(now)
		}
		for i, at := range left {
			var after []api.NestPlace
			for _, other := range left[i+1:] {
				if !common(laid(shape, at), laid(shape, other)) {
					after = append(after, other)
				}
			}
			now = append(now, at)
			try(after)
			now = now[:len(now)-1]
		}
	}
	try(rightAlone(shape, way, s))
	return best
}
