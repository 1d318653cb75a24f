package nest_test

import (
	"cmp"
	"math/rand"
	"testing"

	"testliner/api"
	"testliner/nest"
)

// comparePairs compares pairs as the chapter says.
func comparePairs(a, b api.NestPair) int {
	return cmp.Or(cmp.Compare(a.Long*a.Wide, b.Long*b.Wide), cmp.Compare(a.Long, b.Long), comparePlaces(a.NestPlace, b.NestPlace))
}

// pairAt returns the pair with the second shape at a place, and whether there is one.
func pairAt(shape []api.NestCell, at api.NestPlace) (api.NestPair, bool) {
	second := laid(shape, at)
	both := append(second[:len(second):len(second)], shape...)
	return api.NestPair{NestPlace: at, Size: around(both)}, !common(shape, second)
}

// eachPair calls see with all pairs, so far apart, too, that there is a gap between both.
func eachPair(shape []api.NestCell, way api.NestWay, see func(pair api.NestPair)) {
	for _, turn := range trueTurns(shape, way) {
		for y := -9; y <= 9; y++ {
			for x := -9; x <= 9; x++ {
				if pair, apart := pairAt(shape, p(turn, x, y)); apart {
					see(pair)
				}
			}
		}
	}
}

// P5.3: pitches, of which the first three are the chapter's second example.
func TestPitchExamples(t *testing.T) {
	for i, x := range []struct {
		a, b       []api.NestCell
		down, want int
	}{
		{ell(), ell(), 0, 2},
		{ell(), ell(), 1, 2},
		{ell(), ell(), -1, 1},
		{ell(), ell(), 2, 2},
		{ell(), ell(), 3, 0},
		{ell(), ell(), -2, 1},
		{ell(), ell(), -3, 0},
		{block(8, 1), block(8, 1), 0, 8},
		{block(8, 1), block(8, 1), 1, 0},
		{block(1, 8), block(1, 8), 7, 1},
		{block(1, 8), block(1, 8), -7, 1},
		{block(1, 8), block(1, 8), 8, 0},
		{block(1, 8), block(1, 8), -8, 0},
		// A cell lies in the notch of the cup, but nothing that is longer; where b begins, counts from its own edge.
		{cup(), c(0, 0), 0, 1},
		{cup(), two(), 0, 3},
		{cup(), c(0, 0, 0, 1), -1, 1},
		{cup(), c(0, 0, 0, 1), 0, 3},
		{c(1, 0, 0, 1, 1, 1), c(0, 0), 0, 0},
		{c(0, 0, 0, 1, 1, 1), c(1, 0, 0, 1, 1, 1), 0, 2},
		{c(0, 0, 0, 1, 1, 1), c(0, 0, 1, 0, 1, 1), 0, 1},
	} {
		if got, e := nest.Pitch(x.a, x.b, x.down); got != x.want || e != api.OK {
			t.Error(i, got, e)
		}
	}
}

// P5.3, P5.10: with the Pitch two shapes have no cell in common, with each smaller number from 0 on they have.
func TestPitch(t *testing.T) {
	r := rand.New(rand.NewSource(2))
	all := shapes()
	for range 1000 {
		a, b, down := pick(r, all...), pick(r, all...), some(r, -8, 8)
		got, e := nest.Pitch(a, b, down)
		if e != api.OK {
			t.Fatal(a, b, down, e)
		}
		for along := range got {
			if !common(a, laid(b, p(0, along, down))) {
				t.Error(a, b, down, along, got)
			}
		}
		if got < 0 || common(a, laid(b, p(0, got, down))) {
			t.Error(a, b, down, got)
		}
	}
}

// P5.4: pairs, of which the first one is the chapter's third example.
func TestPairExamples(t *testing.T) {
	pair := func(turn, x, y, long, wide int) api.NestPair {
		return api.NestPair{NestPlace: p(turn, x, y), Size: api.Size{Long: long, Wide: wide}}
	}
	for i, x := range []struct {
		shape []api.NestCell
		way   api.NestWay
		want  api.NestPair
	}{
		{ell(), api.NestAny, pair(2, 0, -1, 2, 4)},
		{ell(), api.NestTurn, pair(2, 0, -1, 2, 4)},
		{ell(), api.NestGrain, pair(2, 0, -1, 2, 4)},
		// Of several with the same area that with the smaller Long; of several of these the smallest place.
		{square(), api.NestAny, pair(0, 0, -2, 2, 4)},
		{block(3, 1), api.NestAny, pair(0, 0, -1, 3, 2)},
		{block(1, 3), api.NestAny, pair(0, 0, -3, 1, 6)},
		{block(8, 1), api.NestGrain, pair(0, 0, -1, 8, 2)},
		{block(1, 8), api.NestGrain, pair(0, 0, -8, 1, 16)},
		{c(0, 0), api.NestGrain, pair(0, 0, -1, 1, 2)},
		{c(0, 0, 1, 0, 0, 1), api.NestTurn, pair(2, 0, 1, 2, 3)},
		{cup(), api.NestGrain, pair(0, 0, -2, 3, 4)},
		// The second one lies left of the first one.
		{c(0, 0, 1, 0, 2, 0, 1, 1, 2, 1), api.NestAny, pair(2, -2, 0, 5, 2)},
		{c(3, 0, 0, 1, 1, 1, 2, 1, 3, 1), api.NestGrain, pair(2, -1, 0, 5, 2)},
		// A quarter turn, or a mirror, has a smaller Long than what is left without it.
		{c(1, 0, 1, 1, 0, 2, 1, 2, 2, 2), api.NestTurn, pair(1, 0, -2, 3, 5)},
		{c(1, 0, 1, 1, 0, 2, 1, 2, 2, 2), api.NestGrain, pair(2, -2, 0, 5, 3)},
		{c(1, 0, 2, 0, 1, 1, 2, 1, 0, 2, 1, 2), api.NestAny, pair(5, 0, -2, 3, 5)},
		{c(1, 0, 2, 0, 1, 1, 2, 1, 0, 2, 1, 2), api.NestTurn, pair(0, -2, 0, 5, 3)},
	} {
		if got, e := nest.Pair(x.shape, x.way); got != x.want || e != api.OK {
			t.Error(i, got, e)
		}
	}
}

// P5.4, P5.10: no other pair is smaller, and the pair is what it is said to be.
func TestPair(t *testing.T) {
	r := rand.New(rand.NewSource(3))
	all := smallShapes(4)
	for range 60 {
		side := some(r, 3, 8)
		all = append(all, someShape(r, some(r, 5, min(24, side*side*2/3)), side))
	}
	for _, shape := range all {
		for _, way := range ways() {
			got, e := nest.Pair(shape, way)
			if same, apart := pairAt(shape, got.NestPlace); e != api.OK || !apart || same != got {
				t.Error(shape, way, got, e)
			}
			eachPair(shape, way, func(pair api.NestPair) {
				if comparePairs(pair, got) < 0 {
					t.Error(shape, way, got, pair)
				}
			})
		}
	}
}
