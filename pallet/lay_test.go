package pallet_test

import (
	"math/rand"
	"slices"
	"testing"

	"testliner/api"
	"testliner/pallet"
)

// trueReach returns the reach of a length, by all numbers of both sides.
func trueReach(b api.PalletBox, length int) int {
	reach := 0
	for longs := 0; longs*b.Long <= length; longs++ {
		for wides := 0; longs*b.Long+wides*b.Wide <= length; wides++ {
			reach = max(reach, longs*b.Long+wides*b.Wide)
		}
	}
	return reach
}

// trueMosts returns by the length and the width of rooms how many boxes of a layer a saw can cut, by all lines at whole centimetres.
func trueMosts(b api.PalletBox, longest, widest int) [][]int {
	mosts := make([][]int, longest+1)
	for long := range mosts {
		mosts[long] = make([]int, widest+1)
		for wide := range mosts[long] {
			most := 0
			if long >= b.Long && wide >= b.Wide || long >= b.Wide && wide >= b.Long {
				most = 1
			}
			for line := 1; line < long; line++ {
				most = max(most, mosts[line][wide]+mosts[long-line][wide])
			}
			for line := 1; line < wide; line++ {
				most = max(most, mosts[long][line]+mosts[long][wide-line])
			}
			mosts[long][wide] = most
		}
	}
	return mosts
}

// laidFor returns Bound and Most, and checks what the layer of Lay is.
func laidFor(t *testing.T, p api.PalletBase, b api.PalletBox) (bound, most int) {
	t.Helper()
	bound, e := pallet.Bound(p, b)
	most, f := pallet.Most(p, b)
	layer, g := pallet.Lay(p, b)
	if e+f+g != api.OK || len(layer) != most || most > bound {
		t.Fatal(p, b, bound, e, most, f, layer, g)
	}
	if _, _, wrong := trueFault(p, b, layer); wrong || !canSaw(b, room(p), layer) {
		t.Fatal(p, b, layer)
	}
	if _, _, e := pallet.Fault(p, b, layer); e != api.ErrNone {
		t.Fatal(p, b, layer, e)
	}
	return bound, most
}

// P9.3, P9.4: the chapter's examples, and the edges.
func TestMostExamples(t *testing.T) {
	for i, c := range []struct {
		p           api.PalletBase
		b           api.PalletBox
		bound, most int
	}{
		{chapterBase(), chapterBox(), 8, 8},
		{base(120, 80, 5), chapterBox(), 9, 9},
		{base(120, 80, 4), box(40, 30), 8, 8},
		{base(120, 80, 5), box(30, 40), 9, 9},
		{greatestBase(), leastBox(), 196, 196},
		{greatestBase(), box(100, 100), 1, 1},
		{greatestBase(), box(10, 100), 19, 18},
		{greatestBase(), box(70, 70), 4, 4},
		{greatestBase(), box(71, 70), 3, 2},
		{greatestBase(), box(71, 71), 1, 1},
		{base(1, 1, 0), leastBox(), 0, 0},
		{base(10, 10, 0), leastBox(), 1, 1},
		{base(9, 120, 0), leastBox(), 0, 0},
		{base(120, 9, 0), leastBox(), 0, 0},
		{base(1, 1, 10), box(21, 21), 1, 1},
		{base(1, 1, 10), box(22, 21), 0, 0},
		// A box that lies just turned, or just not turned.
		{base(40, 30, 0), box(30, 40), 1, 1},
		{base(30, 40, 0), box(30, 40), 1, 1},
		{base(39, 120, 0), box(40, 30), 3, 3},
		// Four boxes lie around a hole, but a saw cannot cut them.
		{base(50, 50, 0), box(30, 20), 4, 3},
		{base(60, 60, 0), box(40, 20), 4, 4},
		// Boxes across both sides, so that cuts follow one another along both.
		{base(70, 40, 0), box(40, 30), 2, 2},
		{base(100, 70, 0), box(40, 30), 5, 5},
	} {
		if bound, most := laidFor(t, c.p, c.b); bound != c.bound || most != c.most {
			t.Error(i, bound, most)
		}
	}
}

// P9.4: a layer around a hole is not wrong, but a saw cannot cut it (so the bound of 4 is reached, and Most is below).
func TestAroundHole(t *testing.T) {
	p, b := base(50, 50, 0), box(30, 20)
	layer := list(at(0, 0), tu(30, 0), at(20, 30), tu(0, 20))
	if _, _, e := pallet.Fault(p, b, layer); e != api.ErrNone || canSaw(b, room(p), layer) {
		t.Error(e)
	}
}

// P9.3, P9.4, P9.11: against all lines at whole centimetres, in rooms of all sizes.
func TestMost(t *testing.T) {
	r := rand.New(rand.NewSource(1))
	boxes := list(box(10, 11), box(11, 10), box(40, 30), box(30, 20), box(13, 13), box(100, 10), box(23, 18))
	for range 8 {
		boxes = append(boxes, someBox(r))
	}
	below := 0
	for _, b := range boxes {
		mosts := trueMosts(b, 140, 140)
		for range 150 {
			p := someBase(r)
			all := room(p)
			bound, most := laidFor(t, p, b)
			if most != mosts[all.right][all.bottom] {
				t.Fatal(p, b, most, mosts[all.right][all.bottom])
			}
			if bound != trueReach(b, all.right)*trueReach(b, all.bottom)/(b.Long*b.Wide) {
				t.Fatal(p, b, bound)
			}
			if most < bound {
				below++
			}
			for _, more := range list(base(min(120, p.Long+some(r, 0, 9)), p.Wide, p.Over), base(p.Long, min(120, p.Wide+some(r, 0, 9)), p.Over), base(p.Long, p.Wide, min(10, p.Over+1))) {
				moreBound, _ := pallet.Bound(more, b)
				moreMost, _ := pallet.Most(more, b)
				if moreBound < bound || moreMost < most {
					t.Fatal(p, more, b, bound, moreBound, most, moreMost)
				}
			}
		}
	}
	if below < 100 {
		t.Error(below)
	}
}

// P9.4, P9.11: against all layers in small rooms, each tried.
func TestAllLayers(t *testing.T) {
	for _, c := range []struct {
		p api.PalletBase
		b api.PalletBox
	}{{base(20, 20, 0), leastBox()}, {base(22, 21, 0), box(11, 10)}, {base(25, 25, 0), box(15, 10)}, {base(23, 17, 1), box(13, 10)}, {base(27, 14, 0), box(14, 13)}, {base(13, 20, 5), box(20, 10)}} {
		most, sawn := 0, 0
		eachLayer(c.p, c.b, nil, 0, func(layer []api.PalletPlace) {
			most = max(most, len(layer))
			if len(layer) > sawn && canSaw(c.b, room(c.p), layer) {
				sawn = len(layer)
			}
		})
		if bound, got := laidFor(t, c.p, c.b); got != sawn || bound < most {
			t.Error(c, got, sawn, bound, most)
		}
	}
}

// eachLayer visits all layers of which no place is wrong, their places in order.
func eachLayer(p api.PalletBase, b api.PalletBox, layer []api.PalletPlace, from int, visit func([]api.PalletPlace)) {
	visit(layer)
	all := room(p)
	for next := from; next < 2*all.right*all.bottom; next++ {
		x := api.PalletPlace{X: next / 2 % all.right, Y: next / 2 / all.right, Turned: next%2 == 1}
		longer := append(slices.Clone(layer), x)
		if _, _, wrong := overlaps(p, b, longer); !wrong {
			eachLayer(p, b, longer, next+1, visit)
		}
	}
}

// P9.11: no layer at all has more boxes than Bound, and none that a saw can cut more than Most.
func TestNoMore(t *testing.T) {
	r := rand.New(rand.NewSource(2))
	full := 0
	for range 300 {
		p, b := someBase(r), someBox(r)
		bound, most := laidFor(t, p, b)
		layer := someLayer(r, p, b, 60)
		if len(layer) > bound || len(layer) > most && canSaw(b, room(p), layer) {
			t.Fatal(p, b, bound, most, layer)
		}
		if len(layer) == most && most > 1 {
			full++
		}
	}
	if full < 20 {
		t.Error(full)
	}
}
