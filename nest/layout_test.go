package nest_test

import (
	"math/rand"
	"testing"

	"testliner/api"
	"testliner/nest"
)

// trueFault returns what the chapter says of the first place that is wrong, or no fault.
func trueFault(shape []api.NestCell, s api.NestSheet, layout []api.NestPlace) (at int, fault api.NestFault) {
	for i, place := range layout {
		var out, bad, over bool
		for _, cell := range laid(shape, place) {
			out = out || cell.X >= s.Long || cell.Y >= s.Wide
			for _, other := range s.Bad {
				bad = bad || cell == other
			}
			for _, before := range layout[:i] {
				over = over || common(laid(shape, before), []api.NestCell{cell})
			}
		}
		if out {
			return i, api.NestOut
		}
		if bad {
			return i, api.NestBad
		}
		if over {
			return i, api.NestOver
		}
	}
	return 0, 0
}

// trueCut returns what the chapter says of the sides of the cells of a sheet, each looked at once, from a map with an edge around it.
func trueCut(shape []api.NestCell, s api.NestSheet, layout []api.NestPlace) api.NestCut {
	const edge, none = -2, -1
	var owner [10][10]int
	for y := range owner {
		for x := range owner[y] {
			owner[y][x] = edge
			if x >= 1 && x <= s.Long && y >= 1 && y <= s.Wide {
				owner[y][x] = none
			}
		}
	}
	for i, place := range layout {
		for _, cell := range laid(shape, place) {
			owner[cell.Y+1][cell.X+1] = i
		}
	}
	var cut api.NestCut
	see := func(a, b int) {
		switch {
		case a == b:
		case min(a, b) == edge && max(a, b) >= 0:
			cut.Border++
		case min(a, b) >= 0:
			cut.Cut++
			cut.Shared++
		case min(a, b) == none:
			cut.Cut++
		}
	}
	for y := range owner {
		for x := range owner[y] {
			if owner[y][x] == none {
				cut.Waste++
			}
			if x > 0 {
				see(owner[y][x], owner[y][x-1])
			}
			if y > 0 {
				see(owner[y][x], owner[y-1][x])
			}
		}
	}
	return cut
}

// someLayout returns places of which each one but the last is right for sure; the last one is any that is allowed.
func someLayout(r *rand.Rand, shape []api.NestCell, way api.NestWay, s api.NestSheet) []api.NestPlace {
	var layout []api.NestPlace
	for range r.Intn(s.Long*s.Wide + 1) {
		next := p(pick(r, allowedTurns(way)...), r.Intn(s.Long), r.Intn(s.Wide))
		if _, fault := trueFault(shape, s, append(layout[:len(layout):len(layout)], next)); fault == 0 {
			layout = append(layout, next)
		}
	}
	if r.Intn(2) == 0 && len(layout) < s.Long*s.Wide {
		layout = append(layout, p(pick(r, allowedTurns(way)...), r.Intn(min(9, s.Long+2)), r.Intn(min(9, s.Wide+2))))
	}
	return layout
}

// P5.5: what is wrong, and where: the first place, and of it the first that is named.
func TestFaultExamples(t *testing.T) {
	for name, x := range map[string]struct {
		shape  []api.NestCell
		sheet  api.NestSheet
		layout []api.NestPlace
		at     int
		fault  api.NestFault
	}{
		"out along":                  {two(), ring(), l(p(0, 2, 0)), 0, api.NestOut},
		"out down":                   {two(), ring(), l(p(1, 0, 2)), 0, api.NestOut},
		"out as one cell":            {c(0, 0), ring(), l(p(0, 3, 0)), 0, api.NestOut},
		"at 8 of 8":                  {c(0, 0), sheet(8, 8), l(p(0, 7, 7), p(0, 0, 8)), 1, api.NestOut},
		"bad":                        {two(), ring(), l(p(0, 0, 0), p(1, 1, 0)), 1, api.NestBad},
		"over":                       {two(), ring(), l(p(0, 0, 0), p(1, 0, 0)), 1, api.NestOver},
		"over one before the last":   {two(), ring(), l(p(0, 0, 0), p(0, 0, 2), p(1, 1, 0)), 2, api.NestBad},
		"over the first of two":      {two(), sheet(3, 3), l(p(0, 0, 0), p(0, 0, 2), p(1, 1, 0)), 2, api.NestOver},
		"the same place":             {two(), ring(), l(p(0, 0, 0), p(0, 0, 0)), 1, api.NestOver},
		"the same cells":             {two(), ring(), l(p(0, 0, 0), p(2, 0, 0)), 1, api.NestOver},
		"out before bad":             {block(3, 1), ring(), l(p(0, 1, 1)), 0, api.NestOut},
		"out before over":            {two(), ring(), l(p(0, 1, 0), p(0, 2, 0)), 1, api.NestOut},
		"bad before over":            {block(3, 1), ring(), l(p(1, 0, 0), p(0, 0, 1)), 1, api.NestBad},
		"a later place with more":    {two(), ring(), l(p(0, 0, 0), p(0, 0, 0), p(0, 0, 1), p(0, 8, 8)), 1, api.NestOver},
		"a place beyond one that is": {two(), ring(), l(p(1, 1, 0), p(0, 2, 0)), 0, api.NestBad},
		"the whole sheet":            {c(0, 0), sheet(1, 1, 0, 0), l(p(7, 0, 0)), 0, api.NestBad},
		"not ascending is not wrong": {two(), sheet(3, 3), l(p(0, 0, 2), p(0, 0, 0), p(0, 0, 1), p(0, 1, 0)), 3, api.NestOver},
	} {
		at, fault, e := nest.Fault(x.shape, api.NestAny, x.sheet, x.layout)
		if at != x.at || fault != x.fault || e != api.OK {
			t.Errorf("%s: %d %d %d", name, at, fault, e)
		}
	}
}

// P5.5, P5.6: in layouts of many shapes, the first fault, or if there is none what the knives cut.
func TestLayouts(t *testing.T) {
	r := rand.New(rand.NewSource(4))
	seen := map[api.NestFault]int{}
	for range 3000 {
		side := some(r, 2, 4)
		shape, s, way := someShape(r, some(r, 1, side*side*2/3), side), someSheet(r, 64, 6), pick(r, ways()...)
		layout := someLayout(r, shape, way, s)
		wantAt, want := trueFault(shape, s, layout)
		seen[want]++
		at, fault, e := nest.Fault(shape, way, s, layout)
		cut, f := nest.Knives(shape, way, s, layout)
		if at != wantAt || fault != want || (e == api.ErrNone) != (want == 0) || (f == api.ErrState) != (want != 0) {
			t.Error(shape, way, s, layout, at, fault, e, f)
		}
		if want == 0 && (cut != trueCut(shape, s, layout) || e != api.ErrNone || f != api.OK) {
			t.Error(shape, way, s, layout, cut, e, f)
		}
		if want == 0 {
			checkSides(t, shape, s, layout, cut)
		}
	}
	if min(seen[0], seen[api.NestOut], seen[api.NestBad], seen[api.NestOver]) < 100 {
		t.Error(seen)
	}
}

// checkSides checks P5.12: the cells of all shapes and the Waste are the sheet; the sides of all shapes are Cut, Shared and Border together.
func checkSides(t *testing.T, shape []api.NestCell, s api.NestSheet, layout []api.NestPlace, cut api.NestCut) {
	t.Helper()
	alone := 0
	for _, cell := range shape {
		for _, by := range c(1, 0, -1, 0, 0, 1, 0, -1) {
			if !common(shape, c(cell.X+by.X, cell.Y+by.Y)) {
				alone++
			}
		}
	}
	if len(shape)*len(layout)+cut.Waste != s.Long*s.Wide || alone*len(layout) != cut.Cut+cut.Shared+cut.Border {
		t.Error(shape, s, layout, cut)
	}
}

// P5.6: what the knives cut, of which the first is the chapter's sixth example.
func TestKnivesExamples(t *testing.T) {
	for name, x := range map[string]struct {
		shape  []api.NestCell
		sheet  api.NestSheet
		layout []api.NestPlace
		want   api.NestCut
	}{
		"four":             {two(), ring(), four(), api.NestCut{Cut: 8, Shared: 4, Border: 12, Waste: 1}},
		"two":              {two(), ring(), four()[:2], api.NestCut{Cut: 5, Shared: 1, Border: 6, Waste: 5}},
		"one":              {two(), ring(), four()[:1], api.NestCut{Cut: 3, Border: 3, Waste: 7}},
		"in other order":   {two(), ring(), l(four()[3], four()[1], four()[2], four()[0]), api.NestCut{Cut: 8, Shared: 4, Border: 12, Waste: 1}},
		"none":             {two(), ring(), nil, api.NestCut{Waste: 9}},
		"far from edges":   {two(), sheet(4, 3), l(p(0, 1, 1)), api.NestCut{Cut: 6, Waste: 10}},
		"the whole sheet":  {block(6, 4), sheet(6, 4), l(p(2, 0, 0)), api.NestCut{Border: 20}},
		"one cell":         {c(0, 0), sheet(1, 1), l(p(0, 0, 0)), api.NestCut{Border: 4}},
		"one bad cell":     {c(0, 0), sheet(1, 1, 0, 0), nil, api.NestCut{Waste: 1}},
		"all by one cell":  {c(0, 0), sheet(2, 2), l(p(0, 0, 0), p(1, 1, 0), p(2, 0, 1), p(3, 1, 1)), api.NestCut{Cut: 4, Shared: 4, Border: 8}},
		"around a hole":    {c(0, 0, 1, 0, 2, 0, 0, 1, 2, 1, 0, 2, 1, 2, 2, 2), ring(), l(p(0, 0, 0)), api.NestCut{Cut: 4, Border: 12, Waste: 1}},
		"a half turn":      {c(0, 0, 0, 1, 1, 1), sheet(3, 2), l(p(0, 0, 0), p(2, 1, 0)), api.NestCut{Cut: 3, Shared: 3, Border: 10}},
		"sides of a notch": {cup(), sheet(3, 2), l(p(0, 0, 0)), api.NestCut{Cut: 3, Border: 9, Waste: 1}},
	} {
		got, e := nest.Knives(x.shape, api.NestAny, x.sheet, x.layout)
		if got != x.want || e != api.OK {
			t.Error(name, got, e)
		}
	}
}
