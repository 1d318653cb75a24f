package pallet_test

import (
	"math/rand"
	"slices"
	"testing"

	"testliner/api"
	"testliner/crush"
	"testliner/pallet"
)

// P9.8: the chapter's example, and the edges.
func TestLayersExamples(t *testing.T) {
	high := func(top int) api.PalletBase {
		p := chapterBase()
		p.Top = top
		return p
	}
	loaded := func(load int) api.PalletBase {
		p := chapterBase()
		p.Load = load
		return p
	}
	heavy := func(low, high int) api.PalletBox {
		b := chapterBox()
		b.Weight = to(low, high)
		return b
	}
	strong := func(low int) api.PalletBox {
		b := chapterBox()
		b.Strength = to(low, 20000000)
		return b
	}
	topped := func(top int) api.PalletBase { return api.PalletBase{Long: 120, Wide: 80, Top: top} }
	light := api.PalletBox{Long: 10, Wide: 10, High: 10}
	flat := list(step(0, 1000))
	for i, c := range []struct {
		p      api.PalletBase
		b      api.PalletBox
		layer  []api.PalletPlace
		keep   []api.CrushStep
		days   int
		layers int
	}{
		{chapterBase(), chapterBox(), eight(), flat, 0, 6},
		// The top of the pallet: six layers of 25 and the pallet itself are 165 high, seven 190.
		{high(400), chapterBox(), eight(), flat, 0, 10},
		{high(190), chapterBox(), eight(), flat, 0, 7},
		{high(189), chapterBox(), eight(), flat, 0, 6},
		{high(165), chapterBox(), eight(), flat, 0, 6},
		{high(164), chapterBox(), eight(), flat, 0, 5},
		{high(40), chapterBox(), eight(), flat, 0, 1},
		{high(39), chapterBox(), eight(), flat, 0, 0},
		{high(15), chapterBox(), eight(), flat, 0, 0},
		{high(14), chapterBox(), eight(), flat, 0, 0},
		{high(0), chapterBox(), eight(), flat, 0, 0},
		{api.PalletBase{Long: 120, Wide: 80, High: 400, Load: 5000000}, chapterBox(), three(), flat, 0, 0},
		// The load: each box with its greatest weight.
		{loaded(96000), chapterBox(), eight(), flat, 0, 2},
		{loaded(95999), chapterBox(), eight(), flat, 0, 1},
		{loaded(48000), chapterBox(), eight(), flat, 0, 1},
		{loaded(47999), chapterBox(), eight(), flat, 0, 0},
		{loaded(47999), chapterBox(), eight()[:7], flat, 0, 1},
		{loaded(0), chapterBox(), three(), flat, 0, 0},
		{loaded(0), heavy(0, 1), three(), flat, 0, 0},
		{loaded(0), heavy(0, 0), three(), flat, 0, 6},
		{loaded(5000000), heavy(0, 5000000), list(at(0, 0)), flat, 0, 1},
		{loaded(5000000), heavy(5000000, 5000000), three()[:2], flat, 0, 0},
		{loaded(5000000), heavy(2500000, 2500000), three()[:2], flat, 0, 1},
		// The strength: one box bears those above it.
		{chapterBase(), strong(0), three(), flat, 0, 1},
		{chapterBase(), strong(59), three(), flat, 0, 1},
		{chapterBase(), strong(60), three(), flat, 0, 2},
		{chapterBase(), strong(119), three(), flat, 0, 2},
		{chapterBase(), strong(120), three(), flat, 0, 3},
		{chapterBase(), strong(299), three(), flat, 0, 5},
		{chapterBase(), strong(300), three(), flat, 0, 6},
		// Newtons are rounded up.
		{chapterBase(), api.PalletBox{Long: 40, Wide: 30, High: 25, Weight: to(0, 1), Strength: to(3, 3)}, three(), flat, 0, 4},
		{chapterBase(), api.PalletBox{Long: 40, Wide: 30, High: 25, Weight: to(0, 100), Strength: to(3, 3)}, three(), flat, 0, 4},
		{chapterBase(), api.PalletBox{Long: 40, Wide: 30, High: 25, Weight: to(0, 101), Strength: to(3, 3)}, three(), flat, 0, 2},
		{chapterBase(), api.PalletBox{Long: 40, Wide: 30, High: 25, Weight: to(200, 200), Strength: to(3, 3)}, three(), flat, 0, 2},
		// Boxes that become weaker.
		{chapterBase(), chapterBox(), eight(), list(step(0, 200)), 0, 4},
		{chapterBase(), chapterBox(), eight(), list(step(0, 1000), step(9, 200)), 8, 6},
		{chapterBase(), chapterBox(), eight(), list(step(0, 1000), step(9, 200)), 9, 4},
		{chapterBase(), chapterBox(), eight(), list(step(0, 0)), 10000, 1},
		// No more than 30, whatever else holds.
		{greatestBase(), light, list(at(0, 0)), list(step(0, 0)), 0, 0},
		{topped(400), light, list(at(0, 0)), list(step(0, 0)), 10000, 30},
		{topped(300), light, list(at(0, 0)), list(step(0, 0)), 10000, 30},
		{topped(299), light, list(at(0, 0)), list(step(0, 0)), 10000, 29},
	} {
		if layers, e := pallet.Layers(c.p, c.b, c.layer, c.keep, c.days); layers != c.layers || e != api.OK {
			t.Error(i, layers, e)
		}
	}
}

// truly reports whether so many layers are not too high, not too heavy, and stand through the days, box on box.
func truly(p api.PalletBase, b api.PalletBox, boxes, layers int, keep []api.CrushStep, days int) bool {
	high, heavy := p.High, 0
	var stack []api.CrushLoad
	for range layers {
		high += b.High
		for range boxes {
			heavy += b.Weight.High
		}
		low, most := b.Weight.Low/100, b.Weight.High/100
		if b.Weight.Low%100 > 0 {
			low++
		}
		if b.Weight.High%100 > 0 {
			most++
		}
		stack = append(stack, api.CrushLoad{Strength: b.Strength, Weight: to(low, most)})
	}
	_, _, e := crush.Fall(stack, keep, days)
	return high <= p.Top && heavy <= p.Load && e == api.ErrNone
}

// P9.8, P9.14: so many layers, and all fewer ones, are borne; one more is not, or there are 30.
func TestLayers(t *testing.T) {
	r := rand.New(rand.NewSource(7))
	counts := map[int]int{}
	for range 1500 {
		p, b := someBase(r), someBox(r)
		layer := someLayer(r, p, b, some(r, 1, 12))
		if len(layer) == 0 {
			continue
		}
		b.Strength = pick(r, b.Strength, to(b.Weight.High/100*some(r, 0, 30), 20000000))
		keep := pick(r, list(step(0, 1000)), list(step(0, some(r, 0, 1000))), list(step(0, 900), step(5, 500), step(8, some(r, 0, 500))))
		days := some(r, 0, 10)
		layers, e := pallet.Layers(p, b, layer, keep, days)
		if e != api.OK || layers < 0 || layers > 30 {
			t.Fatal(p, b, layer, keep, days, layers, e)
		}
		for many := 1; many <= min(30, layers+3); many++ {
			if truly(p, b, len(layer), many, keep, days) != (many <= layers) {
				t.Fatal(p, b, layer, keep, days, layers, many)
			}
		}
		counts[layers]++
	}
	if len(counts) < 15 || min(counts[0], counts[1], counts[2], counts[6]) < 20 {
		t.Error(counts)
	}
}

// P9.8, P9.14: in truths, a stack of so many boxes stands through each day, and the boxes are not too heavy.
func TestLayersTruths(t *testing.T) {
	r := rand.New(rand.NewSource(8))
	stacks := 0
	for range 400 {
		p, b := someBase(r), someBox(r)
		b.Strength = to(b.Weight.High/100*some(r, 0, 8), 20000000)
		layer, e := pallet.Lay(p, b)
		keep, days := list(step(0, 1000), step(3, some(r, 300, 1000))), some(r, 0, 5)
		layers, f := pallet.Layers(p, b, layer, keep, days)
		if len(layer) == 0 {
			if e != api.OK || f != api.ErrNone {
				t.Fatal(p, b, e, f)
			}
			continue
		}
		heavy := 0
		for range layers * len(layer) {
			heavy += some(r, b.Weight.Low, b.Weight.High)
		}
		if heavy > p.Load || layers > 0 && p.High+layers*b.High > p.Top {
			t.Fatal(p, b, len(layer), layers, heavy)
		}
		// From the top down, what lies on each box must be borne on the last day; it is no weaker before.
		left := keep[0].Keep
		if days >= keep[1].Day {
			left = keep[1].Keep
		}
		load := 0
		for range layers {
			if load > some(r, b.Strength.Low, b.Strength.Low+9)*left/1000 {
				t.Fatal(p, b, len(layer), layers, load)
			}
			load += some(r, b.Weight.Low, b.Weight.High) / 100
		}
		if layers > 1 {
			stacks++
		}
	}
	if stacks < 50 {
		t.Error(stacks)
	}
}

// P9.8: which boxes of a layer there are, and how they lie, is all one.
func TestLayersOfAny(t *testing.T) {
	p, b := chapterBase(), chapterBox()
	p.Load = 100000
	for many := 1; many <= 8; many++ {
		a, e := pallet.Layers(p, b, eight()[:many], list(step(0, 1000)), 0)
		turned, _ := pallet.Turn(p, b, eight()[:many], 2)
		slices.Reverse(turned)
		c, f := pallet.Layers(p, b, turned, list(step(0, 1000)), 0)
		if a != c || a != min(6, 100000/(many*6000)) || e != api.OK || f != api.OK {
			t.Error(many, a, c, e, f)
		}
	}
}
