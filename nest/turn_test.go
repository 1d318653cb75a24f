package nest_test

import (
	"math/rand"
	"slices"
	"testing"

	"testliner/api"
	"testliner/nest"
)

// turnOf returns a shape after a turn that there is.
func turnOf(t *testing.T, shape []api.NestCell, turn int) []api.NestCell {
	t.Helper()
	after, e := nest.Turn(shape, turn)
	if e != api.OK {
		t.Fatal(shape, turn, e)
	}
	return after
}

// turnsOf returns the turns of a shape.
func turnsOf(t *testing.T, shape []api.NestCell, way api.NestWay) []int {
	t.Helper()
	turns, e := nest.Turns(shape, way)
	if e != api.OK {
		t.Fatal(shape, way, e)
	}
	return turns
}

// shapes returns all small shapes, and some larger ones.
func shapes() [][]api.NestCell {
	r := rand.New(rand.NewSource(1))
	all := append(smallShapes(5), block(8, 1), block(1, 8), block(6, 4), cup(), hook())
	for range 200 {
		side := some(r, 4, 8)
		all = append(all, someShape(r, some(r, 5, min(24, side*side*2/3)), side))
	}
	return all
}

// P5.2: the turns of L, of which the chapter's first example names one.
func TestTurnExamples(t *testing.T) {
	for turn, want := range [][]api.NestCell{
		ell(),
		c(0, 0, 1, 0, 2, 0, 0, 1),
		c(0, 0, 1, 0, 1, 1, 1, 2),
		c(2, 0, 0, 1, 1, 1, 2, 1),
		c(1, 0, 1, 1, 0, 2, 1, 2),
		c(0, 0, 0, 1, 1, 1, 2, 1),
		c(0, 0, 1, 0, 0, 1, 0, 2),
		c(0, 0, 1, 0, 2, 0, 2, 1),
	} {
		if got := turnOf(t, ell(), turn); !slices.Equal(got, want) {
			t.Error(turn, got, want)
		}
	}
}

// P5.2: each turn of many shapes is what the chapter says of its cells.
func TestTurn(t *testing.T) {
	for _, shape := range shapes() {
		for turn := range 8 {
			if got := turnOf(t, shape, turn); !slices.Equal(got, trueTurn(shape, turn)) {
				t.Error(shape, turn, got)
			}
		}
	}
}

// P5.2: the turns of shapes by how they are like themselves, for each way.
func TestTurnsExamples(t *testing.T) {
	for name, x := range map[string]struct {
		shape            []api.NestCell
		any, turn, grain []int
	}{
		"like nothing of it":       {ell(), []int{0, 1, 2, 3, 4, 5, 6, 7}, []int{0, 1, 2, 3}, []int{0, 2}},
		"no cell at 0, 0":          {hook(), []int{0, 1, 2, 3, 4, 5, 6, 7}, []int{0, 1, 2, 3}, []int{0, 2}},
		"like all of it":           {square(), []int{0}, []int{0}, []int{0}},
		"one cell":                 {c(0, 0), []int{0}, []int{0}, []int{0}},
		"like a half turn":         {c(0, 0, 1, 0, 1, 1, 2, 1), []int{0, 1, 4, 5}, []int{0, 1}, []int{0}},
		"like its mirror":          {cup(), []int{0, 1, 2, 3}, []int{0, 1, 2, 3}, []int{0, 2}},
		"like its mirror, turned":  {c(0, 0, 1, 0, 0, 1), []int{0, 1, 2, 3}, []int{0, 1, 2, 3}, []int{0, 2}},
		"like mirror and half":     {two(), []int{0, 1}, []int{0, 1}, []int{0}},
		"like both, by diagonals":  {c(0, 0, 1, 0, 0, 1, 1, 1, 2, 1, 1, 2, 2, 2), []int{0, 1}, []int{0, 1}, []int{0}},
		"a cross":                  {c(1, 0, 0, 1, 1, 1, 2, 1, 1, 2), []int{0}, []int{0}, []int{0}},
		"a wheel, not its mirror":  {wheel(), []int{0, 4}, []int{0}, []int{0}},
		"the wheel that is turned": {turnOf(t, wheel(), 5), []int{0, 4}, []int{0}, []int{0}},
	} {
		for i, want := range [][]int{x.any, x.turn, x.grain} {
			if got := turnsOf(t, x.shape, ways()[i]); !slices.Equal(got, want) {
				t.Errorf("%s: %v, want %v", name, got, want)
			}
		}
	}
}

// wheel returns a shape that is the same after each quarter turn, but not after a mirror.
func wheel() []api.NestCell {
	return c(1, 0, 1, 1, 2, 1, 3, 1, 0, 2, 1, 2, 2, 2, 2, 3)
}

// P5.2: the turns of many shapes, by what the chapter says of them.
func TestTurns(t *testing.T) {
	for _, shape := range shapes() {
		for _, way := range ways() {
			if got := turnsOf(t, shape, way); !slices.Equal(got, trueTurns(shape, way)) {
				t.Error(shape, way, got)
			}
		}
	}
}

// P5.9: four quarter turns, or two mirrors, leave a shape as it is; the number of cells stays, and there are 1, 2, 4 or 8 turns.
func TestRound(t *testing.T) {
	for _, shape := range shapes() {
		after := shape
		for range 4 {
			after = turnOf(t, after, 1)
		}
		if !slices.Equal(after, shape) {
			t.Error(shape, after)
		}
		for _, turn := range []int{2, 4, 5, 6, 7} { // all of these are mirrors or a half turn
			if twice := turnOf(t, turnOf(t, shape, turn), turn); !slices.Equal(twice, shape) {
				t.Error(shape, turn, twice)
			}
		}
		for turn := range 8 {
			after := turnOf(t, shape, turn)
			if e := nest.Check(after); e != api.OK || len(after) != len(shape) {
				t.Error(shape, turn, after, e)
			}
		}
		for _, way := range ways() {
			if many := len(turnsOf(t, shape, way)); !slices.Contains([]int{1, 2, 4, 8}, many) {
				t.Error(shape, way, many)
			}
		}
	}
}
