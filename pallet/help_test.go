package pallet_test

import (
	"math/rand"
	"slices"

	"testliner/api"
)

// to returns a span, at a place, tu one of a turned box, item a pallet on a lorry, step a step of a table, and list a list.
func to(low, high int) api.Span { return api.Span{Low: low, High: high} }

func at(x, y int) api.PalletPlace { return api.PalletPlace{X: x, Y: y} }

func tu(x, y int) api.PalletPlace { return api.PalletPlace{X: x, Y: y, Turned: true} }

func item(long, low, high int) api.PalletItem {
	return api.PalletItem{Long: long, Weight: to(low, high)}
}

func step(day, keep int) api.CrushStep { return api.CrushStep{Day: day, Keep: keep} }

func list[E any](elements ...E) []E { return elements }

// chapterBase and chapterBox are those of the chapter's examples, three and eight its layers, and chapterLorry its lorry.
func chapterBase() api.PalletBase {
	return api.PalletBase{Long: 120, Wide: 80, High: 15, Top: 180, Load: 500000}
}

func chapterBox() api.PalletBox {
	return api.PalletBox{Long: 40, Wide: 30, High: 25, Weight: to(5000, 6000), Strength: to(900, 1000)}
}

func three() []api.PalletPlace { return list(at(0, 0), at(40, 0), at(0, 30)) }

func eight() []api.PalletPlace {
	return list(tu(0, 0), tu(30, 0), tu(60, 0), tu(90, 0), tu(0, 40), tu(30, 40), tu(60, 40), tu(90, 40))
}

func chapterLorry() api.PalletLorry {
	return api.PalletLorry{Long: 600, Front: 100, Back: 500, FrontMost: 3000000, BackMost: 3000000}
}

// base returns a pallet with a room, and box a box, of which just the sides matter.
func base(long, wide, over int) api.PalletBase {
	return api.PalletBase{Long: long, Wide: wide, Over: over}
}

func box(long, wide int) api.PalletBox {
	return api.PalletBox{Long: long, Wide: wide, High: 10}
}

// greatestBase and leastBox are those of which the most boxes lie in a layer.
func greatestBase() api.PalletBase {
	return api.PalletBase{Long: 120, Wide: 120, High: 400, Over: 10, Top: 400, Load: 5000000}
}

func leastBox() api.PalletBox { return box(10, 10) }

// some returns a number from low to high, pick one of some.
func some(r *rand.Rand, low, high int) int { return low + r.Intn(high-low+1) }

func pick[E any](r *rand.Rand, list ...E) E { return list[r.Intn(len(list))] }

// rect is where a box lies: from x to right, and from y to bottom.
type rect struct{ x, y, right, bottom int }

// room returns the room of a pallet.
func room(p api.PalletBase) rect { return rect{0, 0, p.Long + 2*p.Over, p.Wide + 2*p.Over} }

// laid returns where a box lies.
func laid(b api.PalletBox, at api.PalletPlace) rect {
	if at.Turned {
		return rect{at.X, at.Y, at.X + b.Wide, at.Y + b.Long}
	}
	return rect{at.X, at.Y, at.X + b.Long, at.Y + b.Wide}
}

// cells returns all square centimetres of a rectangle.
func cells(x rect) [][2]int {
	var all [][2]int
	for i := x.x; i < x.right; i++ {
		for j := x.y; j < x.bottom; j++ {
			all = append(all, [2]int{i, j})
		}
	}
	return all
}

// trueFault returns the first place that is wrong, and what is, centimetre by centimetre; found is false if none is wrong.
func trueFault(p api.PalletBase, b api.PalletBox, layer []api.PalletPlace) (place int, fault api.PalletFault, found bool) {
	var taken [300][300]bool
	all := room(p)
	for i, x := range layer {
		into := false
		for _, cell := range cells(laid(b, x)) {
			if cell[0] < all.x || cell[1] < all.y || cell[0] >= all.right || cell[1] >= all.bottom {
				return i, api.PalletOut, true
			}
			into = into || taken[cell[0]][cell[1]]
			taken[cell[0]][cell[1]] = true
		}
		if into {
			return i, api.PalletInto, true
		}
	}
	return 0, 0, false
}

// trueTurn returns where a square centimetre of a room comes by a turn.
func trueTurn(all rect, cell [2]int, turn int) [2]int {
	x, y := cell[0], cell[1]
	otherX, otherY := all.right-1-x, all.bottom-1-y
	return [][2]int{{x, y}, {otherX, otherY}, {otherX, y}, {x, otherY}}[turn]
}

// trueTurned returns a layer that was turned, by the least square centimetre of each box.
func trueTurned(p api.PalletBase, b api.PalletBox, layer []api.PalletPlace, turn int) []api.PalletPlace {
	var turned []api.PalletPlace
	for _, x := range layer {
		least := [2]int{999, 999}
		for _, cell := range cells(laid(b, x)) {
			to := trueTurn(room(p), cell, turn)
			least = [2]int{min(least[0], to[0]), min(least[1], to[1])}
		}
		turned = append(turned, api.PalletPlace{X: least[0], Y: least[1], Turned: x.Turned})
	}
	return turned
}

// trueRests returns on what the boxes of a layer rest, and on how many square centimetres, centimetre by centimetre.
func trueRests(b api.PalletBox, below, above []api.PalletPlace) (rests []api.PalletRest, areas []int) {
	var owner [300][300]int
	for i, x := range below {
		for _, cell := range cells(laid(b, x)) {
			owner[cell[0]][cell[1]] = i + 1
		}
	}
	for _, x := range above {
		var on []int
		area := 0
		for _, cell := range cells(laid(b, x)) {
			if under := owner[cell[0]][cell[1]]; under > 0 {
				on = append(on, under-1)
				area++
			}
		}
		slices.Sort(on)
		rests = append(rests, api.PalletRest{On: slices.Compact(on), Share: area * 1000 / (b.Long * b.Wide)})
		areas = append(areas, area)
	}
	return rests, areas
}

// sameRests reports whether two lists of rests are the same.
func sameRests(a, b []api.PalletRest) bool {
	return slices.EqualFunc(a, b, func(x, y api.PalletRest) bool { return x.Share == y.Share && slices.Equal(x.On, y.On) })
}

// canSaw reports whether a saw can cut a layer in a rectangle. What one straight line parts leaves no other line less to part, so any line between boxes will do.
func canSaw(b api.PalletBox, all rect, layer []api.PalletPlace) bool {
	if len(layer) == 0 {
		return true
	}
	if len(layer) == 1 {
		x := laid(b, layer[0])
		return x.x >= all.x && x.y >= all.y && x.right <= all.right && x.bottom <= all.bottom
	}
	for line := all.x + 1; line < all.right; line++ {
		left, right, crossed := parted(layer, func(x api.PalletPlace) (int, int) { return laid(b, x).x, laid(b, x).right }, line)
		if !crossed && len(left) > 0 && len(right) > 0 {
			return canSaw(b, rect{all.x, all.y, line, all.bottom}, left) && canSaw(b, rect{line, all.y, all.right, all.bottom}, right)
		}
	}
	for line := all.y + 1; line < all.bottom; line++ {
		top, bottom, crossed := parted(layer, func(x api.PalletPlace) (int, int) { return laid(b, x).y, laid(b, x).bottom }, line)
		if !crossed && len(top) > 0 && len(bottom) > 0 {
			return canSaw(b, rect{all.x, all.y, all.right, line}, top) && canSaw(b, rect{all.x, line, all.right, all.bottom}, bottom)
		}
	}
	return false
}

// parted returns the boxes on both sides of a line, and whether it crosses one.
func parted(layer []api.PalletPlace, ends func(api.PalletPlace) (int, int), line int) (before, behind []api.PalletPlace, crossed bool) {
	for _, x := range layer {
		from, end := ends(x)
		switch {
		case end <= line:
			before = append(before, x)
		case from >= line:
			behind = append(behind, x)
		default:
			crossed = true
		}
	}
	return before, behind, crossed
}

// someBase returns a pallet, someBox a box: with rooms and sides of all sizes, and such in which many boxes lie.
func someBase(r *rand.Rand) api.PalletBase {
	return api.PalletBase{
		Long: pick(r, some(r, 1, 120), some(r, 60, 120), 120, 80), Wide: pick(r, some(r, 1, 120), some(r, 60, 120), 120, 80), Over: pick(r, 0, 0, some(r, 0, 10)),
		High: pick(r, 0, 15, some(r, 0, 60)), Top: pick(r, 180, some(r, 0, 400), 400), Load: pick(r, 500000, some(r, 0, 5000000), 5000000),
	}
}

func someBox(r *rand.Rand) api.PalletBox {
	light, weak := pick(r, 0, some(r, 0, 9000), some(r, 0, 90000)), pick(r, 0, some(r, 0, 3000), some(r, 0, 20000000))
	return api.PalletBox{
		Long: pick(r, some(r, 10, 40), some(r, 10, 100), 40), Wide: pick(r, some(r, 10, 40), some(r, 10, 100), 30), High: pick(r, 10, 25, some(r, 10, 100)),
		Weight: to(light, light+pick(r, 0, some(r, 0, 3000))), Strength: to(weak, some(r, weak, 20000000)),
	}
}

// someLayer returns a layer without a wrong place: boxes, turned or not, at places next to others, or anywhere.
func someLayer(r *rand.Rand, p api.PalletBase, b api.PalletBox, tries int) []api.PalletPlace {
	all := room(p)
	xs, ys := list(0), list(0)
	var layer []api.PalletPlace
	for range tries {
		x := api.PalletPlace{X: pick(r, xs...), Y: pick(r, ys...), Turned: r.Intn(2) == 0}
		if r.Intn(5) == 0 {
			x.X, x.Y = r.Intn(all.right), r.Intn(all.bottom)
		}
		if _, _, wrong := overlaps(p, b, append(slices.Clone(layer), x)); !wrong {
			layer = append(layer, x)
			xs, ys = append(xs, laid(b, x).right), append(ys, laid(b, x).bottom)
		}
	}
	return layer
}

// overlaps is trueFault for the last place alone, side by side.
func overlaps(p api.PalletBase, b api.PalletBox, layer []api.PalletPlace) (place int, fault api.PalletFault, found bool) {
	last := len(layer) - 1
	x, all := laid(b, layer[last]), room(p)
	if x.right > all.right || x.bottom > all.bottom {
		return last, api.PalletOut, true
	}
	for _, other := range layer[:last] {
		y := laid(b, other)
		if !(x.right <= y.x || y.right <= x.x || x.bottom <= y.y || y.bottom <= x.y) {
			return last, api.PalletInto, true
		}
	}
	return 0, 0, false
}
