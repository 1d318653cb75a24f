package nest

import (
	"iter"
	"slices"

	"testliner/api"
)

// cutter is a sheet with a shape that is cut out of it.
type cutter struct {
	api.NestSheet
	spoilt set                      // its bad cells
	turns  []int                    // the turns that make different shapes
	after  [turnings][]api.NestCell // the shape after each turn
}

// cutterOf returns the cutter of a shape, a way and a sheet.
func cutterOf(shape []api.NestCell, way api.NestWay, s api.NestSheet) cutter {
	return cutter{NestSheet: s, spoilt: setOf(s.Bad...), turns: turns(way, shape...), after: afterTurns(shape...)}
}

// cells returns the cells of the sheet in ascending order.
func (c cutter) cells() []api.NestCell {
	var all []api.NestCell
	for i := range c.Long * c.Wide {
		all = append(all, api.NestCell{X: i % c.Long, Y: i / c.Long})
	}
	return all
}

// at returns the cells of the shape at a place.
func (c cutter) at(p api.NestPlace) []api.NestCell {
	return moved(api.NestCell{X: p.X, Y: p.Y}, c.after[p.Turn]...)
}

// wrong returns what is wrong with a shape of some cells if others are taken, or 0.
func (c cutter) wrong(taken set, cells ...api.NestCell) api.NestFault {
	switch {
	case !lie(c.Size, cells...):
		return api.NestOut
	case c.spoilt.meets(cells...):
		return api.NestBad
	case taken.meets(cells...):
		return api.NestOver
	}
	return 0
}

// right yields the places, with turns that make different shapes, that are right alone, in ascending order.
func (c cutter) right() iter.Seq[api.NestPlace] {
	return func(yield func(api.NestPlace) bool) {
		for p := range places(c.turns, api.Span{High: c.Long - 1}, api.Span{High: c.Wide - 1}) {
			if c.wrong(nil, c.at(p)...) == 0 && !yield(p) {
				return
			}
		}
	}
}

// fault returns the first of some places that is wrong, and what is wrong with it, or 0.
func (c cutter) fault(layout ...api.NestPlace) (at int, fault api.NestFault) {
	taken := set{}
	for i, p := range layout {
		cells := c.at(p)
		if wrong := c.wrong(taken, cells...); wrong != 0 {
			return i, wrong
		}
		for _, cell := range cells {
			taken[cell] = true
		}
	}
	return 0, 0
}

// knives returns what is cut for some places, none of which is wrong.
func (c cutter) knives(layout ...api.NestPlace) api.NestCut {
	owner := map[api.NestCell]int{} // from 1 on; 0 is no shape
	for i, p := range layout {
		for _, cell := range c.at(p) {
			owner[cell] = i + 1
		}
	}
	var cut api.NestCut
	for _, cell := range c.cells() {
		mine := owner[cell]
		if mine == 0 {
			cut.Waste++
			continue
		}
		for _, next := range beside(cell) {
			theirs := owner[next]
			switch {
			case !lie(c.Size, next):
				cut.Border++
			case theirs == 0:
				cut.Cut++
			case theirs < mine: // so the side is counted once, not for both shapes
				cut.Cut++
				cut.Shared++
			}
		}
	}
	return cut
}

// bitsOf returns the set of some cells of the sheet, which are numbered row by row, as bits.
func (c cutter) bitsOf(cells ...api.NestCell) uint64 {
	set := uint64(0)
	for _, cell := range cells {
		set |= 1 << (cell.Y*c.Long + cell.X)
	}
	return set
}

// free returns the set of the cells of the sheet that are not bad and fulfil a condition, as bits.
func (c cutter) free(holds func(api.NestCell) bool) uint64 {
	return c.bitsOf(slices.DeleteFunc(c.cells(), func(cell api.NestCell) bool { return c.spoilt[cell] || !holds(cell) })...)
}
