package pallet_test

import (
	"math/rand"
	"slices"
	"testing"

	"testliner/api"
	"testliner/pallet"
)

// P9.2: the edges of the room, and of other boxes.
func TestFaultExamples(t *testing.T) {
	over := base(120, 80, 5)
	for i, c := range []struct {
		p     api.PalletBase
		layer []api.PalletPlace
		place int
		fault api.PalletFault
		e     api.Errno
	}{
		{chapterBase(), nil, 0, 0, api.ErrNone},
		{chapterBase(), three(), 0, 0, api.ErrNone},
		{chapterBase(), eight(), 0, 0, api.ErrNone},
		{chapterBase(), list(at(80, 50)), 0, 0, api.ErrNone},
		{chapterBase(), list(at(81, 50)), 0, api.PalletOut, api.OK},
		{chapterBase(), list(at(80, 51)), 0, api.PalletOut, api.OK},
		{chapterBase(), list(tu(90, 40)), 0, 0, api.ErrNone},
		{chapterBase(), list(tu(91, 40)), 0, api.PalletOut, api.OK},
		{chapterBase(), list(tu(90, 41)), 0, api.PalletOut, api.OK},
		// Boxes hang over at both sides, so the room is twice as much larger.
		{over, list(at(90, 60)), 0, 0, api.ErrNone},
		{over, list(at(91, 60)), 0, api.PalletOut, api.OK},
		{over, list(at(90, 61)), 0, api.PalletOut, api.OK},
		// Sides that touch, and corners, have no area in common.
		{chapterBase(), list(at(40, 30), at(0, 30), at(80, 30), at(40, 0), tu(80, 0)), 4, api.PalletInto, api.OK},
		{chapterBase(), list(at(40, 30), at(0, 0), at(80, 0), at(0, 30), at(80, 30), at(40, 0)), 0, 0, api.ErrNone},
		{chapterBase(), list(at(0, 0), at(39, 29)), 1, api.PalletInto, api.OK},
		{chapterBase(), list(at(39, 29), at(0, 0)), 1, api.PalletInto, api.OK},
		{chapterBase(), list(at(0, 0), at(39, 30)), 0, 0, api.ErrNone},
		{chapterBase(), list(at(0, 0), at(40, 29)), 0, 0, api.ErrNone},
		{chapterBase(), list(at(0, 0), tu(40, 0), tu(30, 30)), 2, api.PalletInto, api.OK},
		{chapterBase(), list(at(0, 0), tu(40, 0), tu(30, 40)), 0, 0, api.ErrNone},
		{chapterBase(), list(at(5, 5), at(5, 5)), 1, api.PalletInto, api.OK},
		{chapterBase(), list(at(40, 0), at(80, 0), at(0, 0), at(20, 10)), 3, api.PalletInto, api.OK},
		// What is out is out, whatever it lies in; the first wrong place decides.
		{chapterBase(), list(at(80, 0), at(81, 0)), 1, api.PalletOut, api.OK},
		{chapterBase(), list(at(0, 0), at(1, 0), at(81, 0)), 1, api.PalletInto, api.OK},
		{chapterBase(), list(at(0, 0), at(140, 140), at(1, 0)), 1, api.PalletOut, api.OK},
	} {
		if place, fault, e := pallet.Fault(c.p, chapterBox(), c.layer); place != c.place || fault != c.fault || e != c.e {
			t.Error(i, place, fault, e)
		}
	}
}

// P9.2, P9.12: centimetre by centimetre; a layer is wrong just if it is after a turn.
func TestFault(t *testing.T) {
	r := rand.New(rand.NewSource(3))
	found := map[api.PalletFault]int{}
	for range 600 {
		p, b := someBase(r), someBox(r)
		layer := someLayer(r, p, b, 12)
		for range r.Intn(3) {
			layer = append(layer, api.PalletPlace{X: some(r, 0, 140), Y: some(r, 0, 140), Turned: r.Intn(2) == 0})
		}
		r.Shuffle(len(layer), func(i, j int) { layer[i], layer[j] = layer[j], layer[i] })
		place, fault, wrong := trueFault(p, b, layer)
		want := api.OK
		if !wrong {
			want = api.ErrNone
		}
		found[fault]++
		if gotPlace, gotFault, e := pallet.Fault(p, b, layer); gotPlace != place || gotFault != fault || e != want {
			t.Fatal(p, b, layer, gotPlace, gotFault, e, place, fault)
		}
		turn := r.Intn(4)
		if wrong {
			after := trueTurned(p, b, layer, turn)
			if slices.ContainsFunc(after, func(x api.PalletPlace) bool { return min(x.X, x.Y) < 0 || max(x.X, x.Y) > 140 }) {
				continue
			}
			if _, _, e := pallet.Fault(p, b, after); e != api.OK {
				t.Fatal(p, b, layer, turn, after, e)
			}
			if _, e := pallet.Turn(p, b, layer, turn); e != api.ErrState {
				t.Fatal(p, b, layer, turn, e)
			}
			continue
		}
		after, e := pallet.Turn(p, b, layer, turn)
		if _, _, f := pallet.Fault(p, b, after); e != api.OK || f != api.ErrNone {
			t.Fatal(p, b, layer, turn, after, e, f)
		}
	}
	if min(found[0], found[api.PalletOut], found[api.PalletInto]) < 50 {
		t.Error(found)
	}
}

// P9.5: the chapter's examples, and the edges.
func TestTurnExamples(t *testing.T) {
	five := list(at(0, 0), at(40, 0), tu(80, 0), at(0, 30), at(40, 30))
	for i, c := range []struct {
		p     api.PalletBase
		layer []api.PalletPlace
		turn  int
		want  []api.PalletPlace
	}{
		{chapterBase(), three(), 0, three()},
		{chapterBase(), three(), 1, list(at(80, 50), at(40, 50), at(80, 20))},
		{chapterBase(), three(), 2, list(at(80, 0), at(40, 0), at(80, 30))},
		{chapterBase(), three(), 3, list(at(0, 50), at(40, 50), at(0, 20))},
		{chapterBase(), five, 1, list(at(80, 50), at(40, 50), tu(10, 40), at(80, 20), at(40, 20))},
		{chapterBase(), five, 2, list(at(80, 0), at(40, 0), tu(10, 0), at(80, 30), at(40, 30))},
		{chapterBase(), five, 3, list(at(0, 50), at(40, 50), tu(80, 40), at(0, 20), at(40, 20))},
		{base(120, 80, 5), three(), 1, list(at(90, 60), at(50, 60), at(90, 30))},
		{base(120, 80, 5), three(), 2, list(at(90, 0), at(50, 0), at(90, 30))},
		{base(120, 80, 5), three(), 3, list(at(0, 60), at(40, 60), at(0, 30))},
		{base(40, 30, 0), list(at(0, 0)), 1, list(at(0, 0))},
		{base(30, 40, 0), list(tu(0, 0)), 1, list(tu(0, 0))},
	} {
		if turned, e := pallet.Turn(c.p, chapterBox(), c.layer, c.turn); !slices.Equal(turned, c.want) || e != api.OK {
			t.Error(i, turned, e)
		}
	}
}

// P9.5, P9.12: each square centimetre of a box comes where the turn brings it; twice leaves the layer as it is.
func TestTurn(t *testing.T) {
	r := rand.New(rand.NewSource(4))
	for range 200 {
		p, b := someBase(r), someBox(r)
		layer := someLayer(r, p, b, 20)
		for turn := range 4 {
			turned, e := pallet.Turn(p, b, layer, turn)
			if !slices.Equal(turned, trueTurned(p, b, layer, turn)) || e != api.OK {
				t.Fatal(p, b, layer, turn, turned, e)
			}
			again, e := pallet.Turn(p, b, turned, turn)
			if !slices.Equal(again, layer) || e != api.OK {
				t.Fatal(p, b, layer, turn, turned, again, e)
			}
		}
	}
}

// P9.6: the chapter's examples, and the edges.
func TestRestsExamples(t *testing.T) {
	on := func(share int, boxes ...int) api.PalletRest { return api.PalletRest{On: boxes, Share: share} }
	for i, c := range []struct {
		below, above []api.PalletPlace
		want         []api.PalletRest
	}{
		{three(), list(at(80, 0), at(40, 0), at(80, 30)), list(on(0), on(1000, 1), on(0))},
		{three(), list(at(20, 0)), list(on(1000, 0, 1))},
		{three(), list(at(20, 15)), list(on(750, 0, 1, 2))},
		{three(), list(tu(30, 0)), list(on(833, 0, 1, 2))},
		{three(), list(tu(25, 0)), list(on(875, 0, 1, 2))},
		{three(), list(at(0, 45)), list(on(500, 2))},
		// An area of a square centimetre of 1200 is not yet a thousandth; two are.
		{three(), list(at(79, 29)), list(on(0, 1))},
		{three(), list(at(78, 29)), list(on(1, 1))},
		// Sides that touch have no area in common.
		{three(), list(at(80, 30), tu(40, 30)), list(on(0), on(0))},
		// The numbers ascend, in whichever order the boxes lie.
		{list(at(0, 30), at(40, 0), at(0, 0)), list(at(20, 15)), list(on(750, 0, 1, 2))},
		{list(at(40, 0), tu(90, 0), at(0, 0)), list(at(60, 5), at(1, 0)), list(on(666, 0, 1), on(1000, 0, 2))},
		{nil, three(), list(on(0), on(0), on(0))},
		{list(at(0, 0), at(40, 0), tu(80, 0), at(0, 30), at(40, 30)), list(tu(10, 40)), list(on(500, 3))},
	} {
		if rests, e := pallet.Rests(chapterBase(), chapterBox(), c.below, c.above); !sameRests(rests, c.want) || e != api.OK {
			t.Error(i, rests, e)
		}
	}
}

// P9.6, P9.12, P9.13: centimetre by centimetre; with one box less below no share is greater; on itself each box rests on one.
func TestRests(t *testing.T) {
	r := rand.New(rand.NewSource(5))
	many := map[int]int{}
	for range 200 {
		p, b := someBase(r), someBox(r)
		below, above := someLayer(r, p, b, 30), someLayer(r, p, b, 30)
		want, areas := trueRests(b, below, above)
		rests, e := pallet.Rests(p, b, below, above)
		if !sameRests(rests, want) || e != api.OK {
			t.Fatal(p, b, below, above, rests, e, want)
		}
		for i, rest := range rests {
			if areas[i] > b.Long*b.Wide*min(1, len(rest.On)) || rest.Share > 1000 {
				t.Fatal(p, b, below, above, i, rest, areas[i])
			}
			many[len(rest.On)]++
		}
		if len(below) > 0 {
			less := r.Intn(len(below))
			fewer, e := pallet.Rests(p, b, slices.Delete(slices.Clone(below), less, less+1), above)
			for i, rest := range fewer {
				if rest.Share > rests[i].Share || e != api.OK {
					t.Fatal(p, b, below, above, less, i, rest, rests[i], e)
				}
			}
		}
		itself, e := pallet.Rests(p, b, below, below)
		for i, rest := range itself {
			if !slices.Equal(rest.On, list(i)) || rest.Share != 1000 || e != api.OK {
				t.Fatal(p, b, below, i, rest, e)
			}
		}
	}
	if min(many[0], many[1], many[2], many[3]) < 20 {
		t.Error(many)
	}
}

// P9.7: the chapter's example, and the edges.
func TestBindExamples(t *testing.T) {
	for i, c := range []struct {
		p           api.PalletBase
		layer       []api.PalletPlace
		turn, boxes int
	}{
		{chapterBase(), eight(), 0, 0},
		{chapterBase(), nil, 0, 0},
		{chapterBase(), three(), 3, 1},
		{chapterBase(), list(at(0, 0), at(40, 0)), 0, 0},
		{chapterBase(), list(at(0, 0), at(40, 0), at(0, 30), at(40, 30)), 3, 2},
		// A pallet that is full across is the same after the turns 1 and 2, or 1 and 3: the first one counts. One that is not is just mirrored.
		{base(100, 30, 0), list(at(0, 0), at(40, 0)), 1, 1},
		{base(30, 100, 0), list(tu(0, 0), tu(0, 40)), 1, 1},
		{base(100, 80, 0), list(at(0, 0), at(40, 0)), 2, 1},
	} {
		if turn, boxes, e := pallet.Bind(c.p, chapterBox(), c.layer); turn != c.turn || boxes != c.boxes || e != api.OK {
			t.Error(i, turn, boxes, e)
		}
	}
}

// P9.7, P9.13: against all turns.
func TestBind(t *testing.T) {
	r := rand.New(rand.NewSource(6))
	turns := map[int]int{}
	for range 300 {
		p, b := someBase(r), someBox(r)
		layer := someLayer(r, p, b, 25)
		turn, boxes := 0, 0
		for other := range 4 {
			rests, _ := trueRests(b, layer, trueTurned(p, b, layer, other))
			two := 0
			for _, rest := range rests {
				if len(rest.On) >= 2 {
					two++
				}
			}
			if two > boxes {
				turn, boxes = other, two
			}
		}
		if gotTurn, gotBoxes, e := pallet.Bind(p, b, layer); gotTurn != turn || gotBoxes != boxes || e != api.OK {
			t.Fatal(p, b, layer, gotTurn, gotBoxes, e, turn, boxes)
		}
		turns[turn]++
	}
	if min(turns[0], turns[1], turns[2], turns[3]) < 10 {
		t.Error(turns)
	}
}
