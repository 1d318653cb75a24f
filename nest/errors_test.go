package nest_test

import (
	"math"
	"reflect"
	"slices"
	"testing"

	"testliner/api"
	"testliner/nest"
)

// input is an argument for all functions.
type input struct {
	shape, other []api.NestCell
	turn, down   int
	way          api.NestWay
	sheet        api.NestSheet
	layout       []api.NestPlace
}

// good returns arguments that are valid for all functions but Fault (for which no place is wrong), good but for what change does.
func good(change func(x *input)) input {
	x := input{shape: two(), other: ell(), turn: 1, down: 1, way: api.NestAny, sheet: ring(), layout: four()}
	change(&x)
	return x
}

// errorsWith returns the errors of all functions, and checks that all else that they return is zero if there is one.
func errorsWith(t *testing.T, x input) map[string]api.Errno {
	t.Helper()
	got := map[string]api.Errno{}
	add := func(name string, e api.Errno, results ...any) {
		got[name] = e
		for _, y := range results {
			v := reflect.ValueOf(y)
			if e != api.OK && !v.IsZero() && !(v.Kind() == reflect.Slice && v.Len() == 0) {
				t.Errorf("%s: %d with %v", name, e, y)
			}
		}
	}
	add("Check", nest.Check(x.shape))
	shape, e := nest.Turn(x.shape, x.turn)
	add("Turn", e, shape)
	turns, e := nest.Turns(x.shape, x.way)
	add("Turns", e, turns)
	along, e := nest.Pitch(x.shape, x.other, x.down)
	add("Pitch", e, along)
	pair, e := nest.Pair(x.shape, x.way)
	add("Pair", e, pair)
	add("Sheet", nest.Sheet(x.sheet))
	at, fault, e := nest.Fault(x.shape, x.way, x.sheet, x.layout)
	add("Fault", e, at, fault)
	cut, e := nest.Knives(x.shape, x.way, x.sheet, x.layout)
	add("Knives", e, cut)
	bound, proof, e := nest.Bound(x.shape, x.way, x.sheet)
	add("Bound", e, bound, proof)
	most, e := nest.Most(x.shape, x.way, x.sheet)
	add("Most", e, most)
	return got
}

// expect checks that some functions have an error.
func expect(t *testing.T, name string, x input, e api.Errno, functions ...string) {
	t.Helper()
	got := errorsWith(t, x)
	for _, f := range functions {
		if got[f] != e {
			t.Errorf("%s: %s: %d, want %d", name, f, got[f], e)
		}
	}
}

// worse makes all that comes after shapes invalid.
func worse(x *input) {
	x.turn, x.down, x.way, x.sheet, x.layout = -1, 9, 0, sheet(0, 9, 5, 5, 5, 5), make([]api.NestPlace, 99)
}

// P5.1: what is wrong with a shape, before all else; of Pitch with a, and then with b.
func TestShapeErrors(t *testing.T) {
	long, most := block(5, 5), block(6, 4)
	for name, x := range map[string]struct {
		shape []api.NestCell
		e     api.Errno
	}{
		"25 cells":            {long, api.ErrLong},
		"25 like cells":       {slices.Repeat(c(-1, -1), 25), api.ErrLong},
		"24 cells":            {most, api.OK},
		"no cells":            {nil, api.ErrNone},
		"an empty list":       {c(), api.ErrNone},
		"X -1":                {c(-1, 0, 0, 0), api.ErrRange},
		"Y -1":                {c(0, -1, 0, 0), api.ErrRange},
		"X 8":                 {block(9, 1), api.ErrRange},
		"Y 8":                 {block(1, 9), api.ErrRange},
		"X 8 alone":           {c(8, 0), api.ErrRange},
		"least X":             {c(math.MinInt, 0), api.ErrRange},
		"greatest Y":          {c(0, 0, 0, math.MaxInt), api.ErrRange},
		"range before twice":  {c(0, 0, 0, 0, 0, 8), api.ErrRange},
		"as long as can be":   {block(8, 1), api.OK},
		"as wide as can be":   {block(1, 8), api.OK},
		"a cell":              {c(0, 0), api.OK},
		"a cell twice":        {c(0, 0, 0, 0), api.ErrTwice},
		"X descends":          {c(1, 0, 0, 0), api.ErrTwice},
		"Y descends":          {c(0, 1, 0, 0), api.ErrTwice},
		"X before Y":          {c(0, 0, 0, 1, 1, 0), api.ErrTwice},
		"the last two":        {c(0, 0, 1, 0, 2, 0, 2, 0), api.ErrTwice},
		"twice before form":   {c(3, 3, 3, 3), api.ErrTwice},
		"least X 1":           {c(1, 0, 1, 1), api.ErrForm},
		"least Y 1":           {c(0, 1, 1, 1), api.ErrForm},
		"a corner in common":  {c(0, 0, 1, 1), api.ErrForm},
		"a gap":               {c(0, 0, 2, 0), api.ErrForm},
		"two parts":           {c(0, 0, 1, 0, 3, 0, 3, 1, 0, 2, 0, 3), api.ErrForm},
		"from the last alone": {c(1, 0, 0, 1, 2, 1, 1, 2), api.ErrForm},
		"no cell at 0, 0":     {c(1, 0, 0, 1, 1, 1), api.OK},
		"a hole":              {c(0, 0, 1, 0, 2, 0, 0, 1, 2, 1, 0, 2, 1, 2, 2, 2), api.OK},
		"around and back":     {c(0, 0, 1, 0, 2, 0, 0, 1, 2, 1, 2, 2), api.OK},
	} {
		if e := nest.Check(x.shape); e != x.e {
			t.Errorf("%s: %d, want %d", name, e, x.e)
		}
		late := x.e
		if late == api.OK {
			late = api.ErrArg
		}
		expect(t, name, good(func(y *input) {
			worse(y)
			y.shape, y.other = x.shape, ell()
		}), late, "Turn", "Turns", "Pitch", "Pair", "Fault", "Knives", "Bound", "Most")
		expect(t, name, good(func(y *input) {
			worse(y)
			y.other = x.shape
		}), late, "Pitch")
		if x.e != api.OK {
			expect(t, name, good(func(y *input) { y.shape, y.other = x.shape, nil }), x.e, "Pitch")
			expect(t, name, good(func(y *input) { y.shape, y.other = c(1, 0), x.shape }), api.ErrForm, "Pitch")
		}
	}
}

// P5.1: which cells hang together, of all sets of cells of a square of 3.
func TestForm(t *testing.T) {
	for set := 1; set < 1<<9; set++ {
		var shape []api.NestCell
		for i, cell := range block(3, 3) {
			if set>>i&1 == 1 {
				shape = append(shape, cell)
			}
		}
		want := api.ErrForm
		if slices.Equal(settled(shape), shape) && reached(shape) == len(shape) {
			want = api.OK
		}
		if e := nest.Check(shape); e != want {
			t.Error(shape, e)
		}
	}
}

// reached returns how many cells are reached from the first one, by looking at all of them until none is new.
func reached(shape []api.NestCell) int {
	found := shape[:1:1]
	for before := 0; before < len(found); {
		before = len(found)
		for _, cell := range shape {
			near := c(cell.X+1, cell.Y, cell.X-1, cell.Y, cell.X, cell.Y+1, cell.X, cell.Y-1)
			if !slices.Contains(found, cell) && common(found, near) {
				found = append(found, cell)
			}
		}
	}
	return len(found)
}

// P5.1, P5.2, P5.3: ways, turns, and how far a shape is moved down.
func TestArgumentErrors(t *testing.T) {
	withWay := []string{"Turns", "Pair", "Fault", "Knives", "Bound", "Most"}
	for _, way := range []api.NestWay{0, -1, 4, math.MaxInt, math.MinInt} {
		expect(t, "way", good(func(x *input) {
			worse(x)
			x.way = way
		}), api.ErrArg, withWay...)
		expect(t, "way", good(func(x *input) { x.way = way }), api.ErrArg, withWay...)
	}
	for _, way := range ways() {
		expect(t, "way", good(func(x *input) { x.way, x.layout = way, nil }), api.OK, "Turns", "Pair", "Knives", "Bound", "Most")
	}
	for turn, e := range map[int]api.Errno{-1: api.ErrArg, 8: api.ErrArg, math.MaxInt: api.ErrArg, math.MinInt: api.ErrArg, 0: api.OK, 7: api.OK} {
		expect(t, "turn", good(func(x *input) { x.turn = turn }), e, "Turn")
	}
	for down, e := range map[int]api.Errno{-9: api.ErrArg, 9: api.ErrArg, math.MaxInt: api.ErrArg, math.MinInt: api.ErrArg, -8: api.OK, 8: api.OK} {
		expect(t, "down", good(func(x *input) { x.down = down }), e, "Pitch")
	}
}

// P5.1: what is wrong with a sheet, after the way; P5.8: Most has an error of large sheets after that.
func TestSheetErrors(t *testing.T) {
	for name, x := range map[string]struct {
		sheet api.NestSheet
		e     api.Errno
	}{
		"nothing":            {api.NestSheet{}, api.ErrRange},
		"a cell":             {sheet(1, 1), api.OK},
		"a bad cell":         {sheet(1, 1, 0, 0), api.OK},
		"the largest":        {sheet(8, 8, 7, 7, 0, 0, 7, 0, 0, 7), api.OK},
		"Long 0":             {sheet(0, 1), api.ErrRange},
		"Wide 0":             {sheet(1, 0), api.ErrRange},
		"Long -1":            {sheet(-1, 1), api.ErrRange},
		"Long 9":             {sheet(9, 1), api.ErrRange},
		"Wide 9":             {sheet(1, 9), api.ErrRange},
		"greatest and least": {sheet(math.MaxInt, math.MinInt), api.ErrRange},
		"range before form":  {sheet(9, 1, 9, 9), api.ErrRange},
		"X as Long":          {sheet(3, 2, 3, 0), api.ErrForm},
		"Y as Wide":          {sheet(3, 2, 0, 2), api.ErrForm},
		"X -1":               {sheet(3, 2, -1, 0), api.ErrForm},
		"Y -1":               {sheet(3, 2, 0, -1), api.ErrForm},
		"far away":           {sheet(3, 2, math.MaxInt, math.MinInt), api.ErrForm},
		"form before twice":  {sheet(3, 2, 2, 1, 2, 1, 3, 0), api.ErrForm},
		"twice":              {sheet(3, 2, 2, 1, 0, 0, 2, 1), api.ErrTwice},
		"twice in a row":     {sheet(3, 2, 1, 1, 1, 1), api.ErrTwice},
		"descending":         {sheet(3, 2, 2, 1, 0, 1, 1, 0, 0, 0), api.OK},
		"all bad":            {api.NestSheet{Size: api.Size{Long: 8, Wide: 8}, Bad: block(8, 8)}, api.OK},
		"more than all bad":  {api.NestSheet{Size: api.Size{Long: 8, Wide: 8}, Bad: append(block(8, 8), c(7, 7)...)}, api.ErrTwice},
	} {
		if e := nest.Sheet(x.sheet); e != x.e {
			t.Errorf("%s: %d, want %d", name, e, x.e)
		}
		late, full := x.e, x.e
		if x.e == api.OK {
			late = api.ErrLong
		}
		if x.e == api.OK && x.sheet.Long == 8 {
			full = api.ErrFull
		}
		y := good(func(y *input) { y.sheet, y.layout = x.sheet, make([]api.NestPlace, 99) })
		expect(t, name, y, x.e, "Sheet", "Bound")
		expect(t, name, y, late, "Fault", "Knives")
		expect(t, name, y, full, "Most")
	}
	for size, e := range map[api.Size]api.Errno{
		{Long: 5, Wide: 6}: api.OK, {Long: 6, Wide: 5}: api.OK, {Long: 4, Wide: 7}: api.OK, {Long: 8, Wide: 3}: api.OK,
		{Long: 4, Wide: 8}: api.ErrFull, {Long: 8, Wide: 4}: api.ErrFull, {Long: 6, Wide: 6}: api.ErrFull, {Long: 5, Wide: 7}: api.ErrFull, {Long: 8, Wide: 8}: api.ErrFull,
	} {
		// Bad cells are cells of the sheet, too.
		x := good(func(x *input) { x.sheet.Size, x.sheet.Bad = size, block(3, 2) })
		expect(t, "most", x, e, "Most")
		expect(t, "bound", x, api.OK, "Bound")
	}
}

// P5.5, P5.6: the errors of a layout: too many places, a place that is not allowed, and of Knives a place that is wrong.
func TestLayoutErrors(t *testing.T) {
	for name, x := range map[string]struct {
		way    api.NestWay
		layout []api.NestPlace
		e      api.Errno
	}{
		"ten":                {api.NestAny, make([]api.NestPlace, 10), api.ErrLong},
		"ten not allowed":    {api.NestAny, slices.Repeat(l(p(-1, -1, -1)), 10), api.ErrLong},
		"nine not allowed":   {api.NestAny, slices.Repeat(l(p(-1, 0, 0)), 9), api.ErrArg},
		"a turn after all":   {api.NestGrain, l(p(0, 0, 0), p(2, 0, 2), p(1, 0, 1)), api.ErrArg},
		"X -1":               {api.NestAny, l(p(0, -1, 0)), api.ErrArg},
		"Y -1":               {api.NestAny, l(p(0, 0, -1)), api.ErrArg},
		"X 9":                {api.NestAny, l(p(0, 9, 0)), api.ErrArg},
		"Y 9":                {api.NestAny, l(p(0, 0, 9)), api.ErrArg},
		"greatest X":         {api.NestAny, l(p(0, math.MaxInt, 0)), api.ErrArg},
		"least Y":            {api.NestAny, l(p(0, 0, math.MinInt)), api.ErrArg},
		"argument after out": {api.NestAny, l(p(0, 2, 0), p(0, 9, 0)), api.ErrArg},
	} {
		expect(t, name, good(func(y *input) { y.way, y.layout = x.way, x.layout }), x.e, "Fault", "Knives")
	}
	for _, way := range ways() {
		for _, turn := range []int{math.MinInt, -2, -1, 0, 1, 2, 3, 4, 5, 6, 7, 8, 9, math.MaxInt} {
			fault, knives := api.ErrArg, api.ErrArg
			if slices.Contains(allowedTurns(way), turn) {
				fault, knives = api.ErrNone, api.OK
			}
			x := good(func(x *input) { x.way, x.sheet, x.layout = way, sheet(2, 2), l(p(turn, 0, 0)) })
			expect(t, "turn", x, fault, "Fault")
			expect(t, "turn", x, knives, "Knives")
		}
	}
	for name, layout := range map[string][]api.NestPlace{
		"out": l(p(0, 2, 0)), "at 8": l(p(0, 8, 8)), "bad": l(p(0, 0, 1)), "over": l(p(0, 0, 0), p(1, 0, 0)), "nine": make([]api.NestPlace, 9),
	} {
		x := good(func(x *input) { x.layout = layout })
		expect(t, name, x, api.OK, "Fault")
		expect(t, name, x, api.ErrState, "Knives")
	}
	for name, layout := range map[string][]api.NestPlace{"nothing": nil, "empty": l(), "four": four()} {
		x := good(func(x *input) { x.layout = layout })
		expect(t, name, x, api.ErrNone, "Fault")
		expect(t, name, x, api.OK, "Knives")
	}
}

// P2, R4: no argument is changed, nor the spare room behind it; results are new memory, and equal for equal arguments.
func TestMemory(t *testing.T) {
	spare := func() input {
		return good(func(x *input) {
			x.shape = append(make([]api.NestCell, 0, 30), x.shape...)
			x.other = append(make([]api.NestCell, 0, 30), x.other...)
			x.sheet.Bad = append(make([]api.NestCell, 0, 30), x.sheet.Bad...)
			x.layout = append(make([]api.NestPlace, 0, 30), x.layout...)
		})
	}
	full := func(x input) input {
		x.shape, x.other, x.sheet.Bad, x.layout = x.shape[:30], x.other[:30], x.sheet.Bad[:30], x.layout[:30]
		return x
	}
	x, before := spare(), spare()
	for range 2 {
		for f, e := range errorsWith(t, x) {
			if e != api.OK && f != "Fault" {
				t.Error(f, e)
			}
		}
		for turn, want := range [][]api.NestCell{c(0, 0, 1, 0), c(0, 0, 0, 1)} {
			shape, _ := nest.Turn(x.shape, turn)
			if !slices.Equal(shape, want) {
				t.Error(shape)
			}
			clear(shape[:cap(shape)])
		}
		turns, _ := nest.Turns(x.shape, x.way)
		pair, _ := nest.Pair(x.shape, x.way)
		most, _ := nest.Most(x.shape, x.way, x.sheet)
		if !slices.Equal(turns, []int{0, 1}) || pair.Long*pair.Wide != 4 || !slices.Equal(most, four()) {
			t.Error(turns, pair, most)
		}
		clear(turns[:cap(turns)])
		clear(most[:cap(most)])
		if !reflect.DeepEqual(full(x), full(before)) {
			t.Error(x)
		}
	}
}

// P1: with the least and the greatest numbers, and none at all, each function ends.
func TestAnyArguments(t *testing.T) {
	numbers := []int{math.MinInt, -1, 0, 1, 4, math.MaxInt}
	for _, a := range numbers {
		for _, b := range numbers {
			for _, shape := range [][]api.NestCell{nil, two(), c(a, b), c(0, 0, a, b), c(a, b, b, a)} {
				for _, s := range []api.NestSheet{sheet(a, b), sheet(b, a, a, b), sheet(4, 4, a, b), ring()} {
					errorsWith(t, input{
						shape: shape, other: shape, turn: a, down: b, way: api.NestWay(a),
						sheet: s, layout: l(p(a, b, a), p(b, a, b)),
					})
					errorsWith(t, input{
						shape: shape, other: ell(), turn: b, down: a, way: api.NestAny,
						sheet: s, layout: l(p(0, a, b), p(a, 0, 0), p(0, b, a)),
					})
				}
			}
		}
	}
}
