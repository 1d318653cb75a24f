package pallet

import (
	"iter"
	"slices"

	"testliner/api"
)

// whole is all thousandths of an area.
const whole = 1000

// deck is a pallet with the box of which layers lie on it.
type deck struct {
	api.PalletBase
	box api.PalletBox
}

// size is how far something goes along X, and along Y; or how far it is from the corner of the room.
type size [2]int

// holds reports whether what goes so far lies within a size.
func (s size) holds(other size) bool { return other[0] <= s[0] && other[1] <= s[1] }

// room returns the size of the room.
func (d deck) room() size { return size{d.Long + 2*d.Over, d.Wide + 2*d.Over} }

// sized returns the size of the box.
func (d deck) sized(turned bool) size {
	if turned {
		return size{d.box.Wide, d.box.Long}
	}
	return size{d.box.Long, d.box.Wide}
}

// area returns how large the box is.
func (d deck) area() int { return d.box.Long * d.box.Wide }

// common returns how large the area is that boxes at two places have in common.
func (d deck) common(a, b api.PalletPlace) int {
	one, other := d.sized(a.Turned), d.sized(b.Turned)
	long := min(a.X+one[0], b.X+other[0]) - max(a.X, b.X)
	wide := min(a.Y+one[1], b.Y+other[1]) - max(a.Y, b.Y)
	return max(0, long) * max(0, wide)
}

// fault returns the first place of a layer that is wrong, and what is wrong with it, or 0.
func (d deck) fault(layer ...api.PalletPlace) (at int, fault api.PalletFault) {
	for i, p := range layer {
		box := d.sized(p.Turned)
		if !d.room().holds(size{p.X + box[0], p.Y + box[1]}) {
			return i, api.PalletOut
		}
		if slices.ContainsFunc(layer[:i], func(before api.PalletPlace) bool { return d.common(p, before) > 0 }) {
			return i, api.PalletInto
		}
	}
	return 0, 0
}

// turned yields the places of a layer after a turn.
func (d deck) turned(turn int, layer ...api.PalletPlace) iter.Seq[api.PalletPlace] {
	return func(yield func(api.PalletPlace) bool) {
		room := d.room()
		for _, p := range layer {
			box := d.sized(p.Turned)
			if turn == 1 || turn == 2 {
				p.X = room[0] - box[0] - p.X
			}
			if turn == 1 || turn == 3 {
				p.Y = room[1] - box[1] - p.Y
			}
			if !yield(p) {
				return
			}
		}
	}
}

// rest returns on what a box at a place rests.
func (d deck) rest(at api.PalletPlace, below ...api.PalletPlace) api.PalletRest {
	var rest api.PalletRest
	lies := 0
	for i, p := range below {
		if common := d.common(at, p); common > 0 {
			rest.On = append(rest.On, i)
			lies += common
		}
	}
	rest.Share = lies * whole / d.area()
	return rest
}

// bind returns the first turn with which the most boxes of a layer rest on two or more boxes of it, and how many do.
func (d deck) bind(layer ...api.PalletPlace) (turn, boxes int) {
	for other := range turnings {
		many := 0
		for p := range d.turned(other, layer...) {
			if len(d.rest(p, layer...).On) > 1 {
				many++
			}
		}
		if many > boxes {
			turn, boxes = other, many
		}
	}
	return turn, boxes
}

// bears reports whether the pallet may go as high, and the boxes may be as heavy, as with so many layers of so many boxes.
func (d deck) bears(layers, boxes int) bool {
	return d.High+layers*d.box.High <= d.Top && layers*boxes*d.box.Weight.High <= d.Load
}

// load returns the box as one of a stack, with its weight in newtons.
func (d deck) load() api.CrushLoad {
	return api.CrushLoad{
		Strength: d.box.Strength,
		Weight:   api.Span{Low: newtons(d.box.Weight.Low), High: newtons(d.box.Weight.High)},
	}
}

// newtons returns how heavy so many grams are, rounded up.
func newtons(grams int) int { return (grams + 99) / 100 }
