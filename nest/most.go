package nest

import (
	"math/bits"

	"testliner/api"
)

// packer finds how many shapes can lie on some cells of a sheet. Sets of cells are bits.
type packer struct {
	cells int            // how many cells the shape has
	from  [][]uint64     // by their first cell, the cells of each place that is right alone
	known map[uint64]int // how many shapes can lie on some cells, as far as that was found
}

// packerOf returns the packer of a cutter.
func packerOf(c cutter) packer {
	p := packer{cells: len(c.after[0]), from: make([][]uint64, c.Long*c.Wide), known: map[uint64]int{}}
	for place := range c.right() {
		cells := c.bitsOf(c.at(place)...)
		first := bits.TrailingZeros64(cells)
		p.from[first] = append(p.from[first], cells)
	}
	return p
}

// most returns how many shapes can lie on free cells.
func (p packer) most(free uint64) int {
	limit := bits.OnesCount64(free) / p.cells
	if limit == 0 {
		return 0
	}
	if many, found := p.known[free]; found {
		return many
	}
	// The first free cell is left, or it is the first one of a shape.
	many := p.most(free & (free - 1))
	for _, cells := range p.from[bits.TrailingZeros64(free)] {
		if many < limit && within(cells, free) {
			many = max(many, 1+p.most(free&^cells))
		}
	}
	p.known[free] = many
	return many
}

// most returns the smallest layout of as many shapes as can lie on the sheet.
func (c cutter) most() []api.NestPlace {
	p := packerOf(c)
	free := c.free(func(api.NestCell) bool { return true })
	left := p.most(free)
	var layout []api.NestPlace
	// A place that no best layout has beside those that were taken before is in none later, so one look at each is enough.
	for place := range c.right() {
		cells := c.bitsOf(c.at(place)...)
		if within(cells, free) && 1+p.most(free&^cells) == left {
			layout = append(layout, place)
			free &^= cells
			left--
		}
	}
	return layout
}

// within reports whether a set, as bits, lies within another one.
func within(set, other uint64) bool { return set&^other == 0 }
