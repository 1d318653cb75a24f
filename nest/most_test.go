package nest_test

import (
	"math/rand"
	"slices"
	"testing"

	"testliner/api"
	"testliner/nest"
)

// inClass reports whether a cell is in a class.
func inClass(class api.NestProof, cell api.NestCell) bool {
	switch class.Kind {
	case 1:
		return cell.X%class.Mod == class.Class
	case 2:
		return cell.Y%class.Mod == class.Class
	case 3:
		return (cell.X+cell.Y)%class.Mod == class.Class
	}
	return true
}

// allClasses returns all classes, by Kind, Mod and Class.
func allClasses() []api.NestProof {
	all := []api.NestProof{{}}
	for _, kind := range []int{1, 2, 3} {
		for _, mod := range []int{2, 3, 4} {
			for class := range mod {
				all = append(all, api.NestProof{Kind: kind, Mod: mod, Class: class})
			}
		}
	}
	return all
}

// boundBy returns the number by which a class bounds, and whether it does.
func boundBy(class api.NestProof, shape []api.NestCell, places []api.NestPlace, s api.NestSheet) (by int, bounds bool) {
	number := func(cells []api.NestCell) int {
		many := 0
		for _, cell := range cells {
			if inClass(class, cell) && !slices.Contains(s.Bad, cell) {
				many++
			}
		}
		return many
	}
	least := 99
	for _, place := range places {
		least = min(least, number(laid(shape, place)))
	}
	if least == 0 {
		return 0, false
	}
	return number(block(s.Long, s.Wide)) / least, true
}

// trueBound returns what the chapter says of a bound.
func trueBound(shape []api.NestCell, way api.NestWay, s api.NestSheet) (most int, proof api.NestProof) {
	places := rightAlone(shape, way, s)
	if len(places) == 0 {
		return 0, api.NestProof{}
	}
	most = 99
	for _, class := range allClasses() {
		if by, bounds := boundBy(class, shape, places, s); bounds && by < most {
			most, proof = by, class
		}
	}
	return most, proof
}

// mostOf returns the layout of the most shapes, of arguments that are valid.
func mostOf(t *testing.T, shape []api.NestCell, way api.NestWay, s api.NestSheet) []api.NestPlace {
	t.Helper()
	layout, e := nest.Most(shape, way, s)
	if e != api.OK {
		t.Fatal(shape, way, s, e)
	}
	return layout
}

// P5.7, P5.8: bounds and layouts, of which the first ones are the chapter's fourth and fifth example.
func TestMostExamples(t *testing.T) {
	class := func(kind, mod, class int) api.NestProof {
		return api.NestProof{Kind: kind, Mod: mod, Class: class}
	}
	for name, x := range map[string]struct {
		shape []api.NestCell
		way   api.NestWay
		sheet api.NestSheet
		bound int
		proof api.NestProof
		most  []api.NestPlace
	}{
		"L":                   {ell(), api.NestAny, sheet(4, 4), 4, class(0, 0, 0), l(p(0, 0, 0), p(1, 1, 0), p(2, 2, 1), p(3, 0, 2))},
		"ring":                {two(), api.NestAny, ring(), 4, class(0, 0, 0), four()},
		"a row":               {two(), api.NestAny, sheet(5, 1), 2, class(0, 0, 0), l(p(0, 0, 0), p(0, 2, 0))},
		"a column":            {two(), api.NestAny, sheet(1, 5), 2, class(0, 0, 0), l(p(1, 0, 0), p(1, 0, 2))},
		"a column, no turn":   {two(), api.NestGrain, sheet(1, 5), 0, class(0, 0, 0), nil},
		"too long":            {block(8, 1), api.NestAny, sheet(7, 4), 0, class(0, 0, 0), nil},
		"too wide":            {block(1, 8), api.NestGrain, sheet(4, 7), 0, class(0, 0, 0), nil},
		"too many bad":        {square(), api.NestAny, ring(), 0, class(0, 0, 0), nil},
		"all bad":             {c(0, 0), api.NestAny, sheet(2, 1, 1, 0, 0, 0), 0, class(0, 0, 0), nil},
		"all cells":           {c(0, 0), api.NestAny, sheet(2, 2, 1, 0), 3, class(0, 0, 0), l(p(0, 0, 0), p(0, 0, 1), p(0, 1, 1))},
		"columns":             {two(), api.NestGrain, sheet(3, 3), 3, class(1, 2, 1), l(p(0, 0, 0), p(0, 0, 1), p(0, 0, 2))},
		"rows":                {c(0, 0, 0, 1), api.NestGrain, sheet(3, 3), 3, class(2, 2, 1), l(p(0, 0, 0), p(0, 1, 0), p(0, 2, 0))},
		"columns, modulo 3":   {block(3, 1), api.NestGrain, sheet(5, 2), 2, class(1, 3, 2), l(p(0, 0, 0), p(0, 0, 1))},
		"rows, modulo 4":      {block(1, 4), api.NestGrain, sheet(2, 7), 2, class(2, 4, 3), l(p(0, 0, 0), p(0, 1, 0))},
		"diagonals":           {two(), api.NestAny, sheet(4, 4, 0, 0, 3, 3), 6, class(3, 2, 0), l(p(0, 1, 0), p(1, 3, 0), p(0, 0, 1), p(1, 2, 1), p(0, 0, 2), p(0, 0, 3))},
		"the whole sheet":     {block(6, 4), api.NestAny, sheet(6, 5), 1, class(0, 0, 0), l(p(0, 0, 0))},
		"a square in a odd":   {square(), api.NestAny, sheet(5, 5), 5, class(1, 2, 1), l(p(0, 0, 0), p(0, 2, 0), p(0, 0, 2), p(0, 2, 2))},
		"of 30 cells":         {c(0, 0), api.NestAny, sheet(5, 6), 30, class(0, 0, 0), ones(5, 6)},
		"the last place":      {square(), api.NestAny, sheet(3, 3, 0, 0), 1, class(1, 2, 1), l(p(0, 1, 0))},
		"the last place down": {square(), api.NestAny, sheet(3, 3, 1, 0), 1, class(1, 2, 1), l(p(0, 0, 1))},
	} {
		bound, proof, e := nest.Bound(x.shape, x.way, x.sheet)
		if bound != x.bound || proof != x.proof || e != api.OK {
			t.Errorf("%s: Bound: %d %v %d", name, bound, proof, e)
		}
		if got := mostOf(t, x.shape, x.way, x.sheet); !slices.Equal(got, x.most) {
			t.Errorf("%s: Most: %v", name, got)
		}
	}
}

// ones returns a place for each cell of a sheet.
func ones(long, wide int) []api.NestPlace {
	var list []api.NestPlace
	for _, cell := range block(long, wide) {
		list = append(list, p(0, cell.X, cell.Y))
	}
	return list
}

// P5.7: bounds on sheets up to the largest, against what the chapter says of classes; each class is the first best one somewhere.
func TestBound(t *testing.T) {
	r := rand.New(rand.NewSource(5))
	seen := map[api.NestProof]int{}
	for i := range 2500 {
		side := some(r, 1, 5)
		shape, way, bad := someShape(r, some(r, 1, max(1, side*side*2/3)), side), pick(r, ways()...), pick(r, 0, 0, 3, 20)
		if i%2 == 1 { // for bars a class has fewer cells than for others
			shape, bad = pick(r, block(some(r, 2, 4), 1), block(1, some(r, 2, 4))), pick(r, 3, 9, 30)
		}
		s := someSheet(r, 64, bad)
		want, wantProof := trueBound(shape, way, s)
		got, proof, e := nest.Bound(shape, way, s)
		if got != want || proof != wantProof || e != api.OK {
			t.Error(shape, way, s, got, proof, e, want, wantProof)
		}
		seen[proof]++
	}
	for _, class := range allClasses() {
		if seen[class] == 0 {
			t.Error("never seen", class)
		}
	}
}

// P5.8: all layouts of small sheets: none has more places, none with as many is a smaller list.
func TestMost(t *testing.T) {
	r := rand.New(rand.NewSource(6))
	for range 1500 {
		side := some(r, 1, 4)
		shape, way := someShape(r, some(r, 1, max(1, side*side*2/3)), side), pick(r, ways()...)
		s := someSheet(r, pick(r, 9, 12, min(30, 12+len(shape)*2)), pick(r, 0, 2, 5))
		got, want := mostOf(t, shape, way, s), trueMost(shape, way, s)
		if !slices.Equal(got, want) {
			t.Error(shape, way, s, got, want)
		}
	}
}

// P5.8, P5.11: the layout has no fault, ascends and has turns of Turns; the bound is not below it, and no smaller place can stand for one of it.
func TestMostLarge(t *testing.T) {
	r := rand.New(rand.NewSource(7))
	for range 300 {
		side := some(r, 1, 5)
		shape, s, way := someShape(r, some(r, 1, max(1, side*side*2/3)), side), someSheet(r, 30, 4), pick(r, ways()...)
		layout := mostOf(t, shape, way, s)
		if at, fault, e := nest.Fault(shape, way, s, layout); e != api.ErrNone {
			t.Error(shape, way, s, layout, at, fault, e)
		}
		if bound, proof, _ := nest.Bound(shape, way, s); bound < len(layout) {
			t.Error(shape, way, s, layout, bound, proof)
		}
		for i, place := range layout {
			if i > 0 && comparePlaces(layout[i-1], place) >= 0 || !slices.Contains(trueTurns(shape, way), place.Turn) {
				t.Error(shape, way, s, layout)
			}
		}
		checkSmallest(t, shape, way, s, layout)
		if tried := filled(r, shape, way, s); len(tried) > len(layout) {
			t.Error(shape, way, s, layout, tried)
		}
	}
}

// filled returns a layout to which places were added, in any order, until there was room for no more.
func filled(r *rand.Rand, shape []api.NestCell, way api.NestWay, s api.NestSheet) []api.NestPlace {
	var layout []api.NestPlace
	places := rightAlone(shape, way, s)
	for len(places) > 0 {
		place := pick(r, places...)
		layout, s = append(layout, place), without(s, laid(shape, place)...)
		places = rightAlone(shape, way, s)
	}
	return layout
}

// checkSmallest checks that with the first places of a layout, and a smaller one than its next one, there is no layout with as many, as so many do not lie on the rest of the sheet.
func checkSmallest(t *testing.T, shape []api.NestCell, way api.NestWay, s api.NestSheet, layout []api.NestPlace) {
	t.Helper()
	rest := s
	for i, place := range layout {
		for _, other := range rightAlone(shape, way, rest) {
			if comparePlaces(other, place) >= 0 {
				break
			}
			if more := mostOf(t, shape, way, without(rest, laid(shape, other)...)); i+1+len(more) >= len(layout) {
				t.Error(shape, way, s, layout, i, other)
			}
		}
		rest = without(rest, laid(shape, place)...)
	}
	if places := rightAlone(shape, way, rest); len(places) > 0 {
		t.Error(shape, way, s, layout, places)
	}
}

// without returns a sheet with more bad cells.
func without(s api.NestSheet, cells ...api.NestCell) api.NestSheet {
	return api.NestSheet{Size: s.Size, Bad: slices.Concat(s.Bad, cells)}
}

// P5.11: with one more bad cell, a shorter or narrower sheet, or a way that allows less, there are no more places.
func TestMostLess(t *testing.T) {
	r := rand.New(rand.NewSource(8))
	for range 300 {
		side := some(r, 1, 4)
		shape, s := someShape(r, some(r, 1, max(1, side*side*2/3)), side), someSheet(r, 30, 4)
		var many []int
		for _, way := range ways() {
			many = append(many, len(mostOf(t, shape, way, s)))
		}
		if many[0] < many[1] || many[1] < many[2] {
			t.Error(shape, s, many)
		}
		var less []api.NestSheet
		for _, cell := range block(s.Long, s.Wide) {
			if !slices.Contains(s.Bad, cell) {
				less = append(less, without(s, cell))
			}
		}
		less = append(less, cutTo(s, s.Long-1, s.Wide), cutTo(s, s.Long, s.Wide-1))
		for i, way := range ways() {
			for _, smaller := range less {
				if nest.Sheet(smaller) == api.OK && len(mostOf(t, shape, way, smaller)) > many[i] {
					t.Error(shape, way, s, smaller)
				}
			}
		}
	}
}

// cutTo returns a sheet without what lies beyond a size.
func cutTo(s api.NestSheet, long, wide int) api.NestSheet {
	small := sheet(long, wide)
	for _, cell := range s.Bad {
		if onSheet(small, cell) {
			small.Bad = append(small.Bad, cell)
		}
	}
	return small
}
