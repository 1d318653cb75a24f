package pallet_test

import (
	"math"
	"reflect"
	"slices"
	"testing"

	"testliner/api"
	"testliner/pallet"
)

// input is an argument for all functions.
type input struct {
	p            api.PalletBase
	b            api.PalletBox
	layer, other []api.PalletPlace
	turn         int
	keep         []api.CrushStep
	days         int
	l            api.PalletLorry
	items        []api.PalletItem
}

// good returns arguments that are valid for all functions but Fault (for which no place is wrong), good but for what change does.
func good(change func(i *input)) input {
	i := input{
		p: chapterBase(), b: chapterBox(), layer: three(), other: eight(), turn: 1, keep: list(step(0, 1000)),
		l: chapterLorry(), items: list(item(240, 1000000, 1000000), item(240, 800000, 900000)),
	}
	change(&i)
	return i
}

// errorsWith returns the errors of all functions, and checks that all else that they return is zero if there is one. Rests is asked for the layer below another one.
func errorsWith(t *testing.T, i input) map[string]api.Errno {
	t.Helper()
	got := map[string]api.Errno{}
	add := func(name string, e api.Errno, results ...any) {
		got[name] = e
		for _, y := range results {
			v := reflect.ValueOf(y)
			if e != api.OK && !v.IsZero() && !(v.Kind() == reflect.Slice && v.Len() == 0) {
				t.Errorf("%s: %d with %v", name, e, y)
			}
		}
	}
	add("Check", pallet.Check(i.p, i.b))
	place, fault, e := pallet.Fault(i.p, i.b, i.layer)
	add("Fault", e, place, fault)
	bound, e := pallet.Bound(i.p, i.b)
	add("Bound", e, bound)
	most, e := pallet.Most(i.p, i.b)
	add("Most", e, most)
	lay, e := pallet.Lay(i.p, i.b)
	add("Lay", e, lay)
	turned, e := pallet.Turn(i.p, i.b, i.layer, i.turn)
	add("Turn", e, turned)
	rests, e := pallet.Rests(i.p, i.b, i.layer, i.other)
	add("Rests", e, rests)
	turn, boxes, e := pallet.Bind(i.p, i.b, i.layer)
	add("Bind", e, turn, boxes)
	layers, e := pallet.Layers(i.p, i.b, i.layer, i.keep, i.days)
	add("Layers", e, layers)
	front, back, e := pallet.Axles(i.l, i.items)
	add("Axles", e, front, back)
	order, e := pallet.Order(i.l, i.items)
	add("Order", e, order)
	return got
}

// expect checks that some functions have an error.
func expect(t *testing.T, name string, i input, e api.Errno, functions ...string) {
	t.Helper()
	got := errorsWith(t, i)
	for _, f := range functions {
		if got[f] != e {
			t.Errorf("%s: %s: %d, want %d", name, f, got[f], e)
		}
	}
}

// badSpans are spans that are not valid from 0 to a number.
func badSpans(most int) []api.Span {
	return list(to(-1, 0), to(-1, -1), to(0, most+1), to(most+1, most+1), to(1, 0), to(most, most-1), to(math.MinInt, math.MaxInt), to(math.MaxInt, math.MinInt))
}

// P9.1: what is wrong with a pallet or a box, before all else of the functions that have both.
func TestCheckErrors(t *testing.T) {
	all := list("Check", "Fault", "Bound", "Most", "Lay", "Turn", "Rests", "Bind", "Layers")
	withLayer := list("Fault", "Turn", "Rests", "Bind", "Layers")
	try := func(name string, e api.Errno, change func(i *input, n int), numbers ...int) {
		t.Helper()
		for _, n := range numbers {
			i := good(func(i *input) { i.layer, i.other = nil, nil })
			change(&i, n)
			expect(t, name, i, e, "Check", "Bound", "Most", "Lay", "Turn", "Rests", "Bind")
			i.layer, i.other, i.turn, i.days = slices.Repeat(list(at(-1, 0)), 201), nil, 9, -1
			if e == api.OK {
				expect(t, name, i, api.ErrLong, withLayer...)
			} else {
				expect(t, name, i, e, all...)
			}
		}
	}
	for _, side := range list(
		func(i *input, n int) { i.p.Long = n },
		func(i *input, n int) { i.p.Wide = n },
	) {
		try("a side of a pallet", api.ErrArg, side, 0, -1, 121, math.MinInt, math.MaxInt)
		try("a side of a pallet", api.OK, side, 1, 2, 119, 120)
	}
	for _, high := range list(
		func(i *input, n int) { i.p.High = n },
		func(i *input, n int) { i.p.Top = n },
	) {
		try("High or Top", api.ErrArg, high, -1, 401, math.MinInt, math.MaxInt)
		try("High or Top", api.OK, high, 0, 1, 399, 400)
	}
	over := func(i *input, n int) { i.p.Over = n }
	try("Over", api.ErrArg, over, -1, 11, math.MinInt, math.MaxInt)
	try("Over", api.OK, over, 0, 1, 9, 10)
	load := func(i *input, n int) { i.p.Load = n }
	try("Load", api.ErrArg, load, -1, 5000001, math.MinInt, math.MaxInt)
	try("Load", api.OK, load, 0, 1, 4999999, 5000000)
	for _, side := range list(
		func(i *input, n int) { i.b.Long = n },
		func(i *input, n int) { i.b.Wide = n },
		func(i *input, n int) { i.b.High = n },
	) {
		try("a side of a box", api.ErrArg, side, 9, 0, -10, 101, math.MinInt, math.MaxInt)
		try("a side of a box", api.OK, side, 10, 11, 99, 100)
	}
	for _, s := range badSpans(5000000) {
		try("a weight", api.ErrArg, func(i *input, n int) { i.b.Weight = s }, 0)
	}
	for _, s := range list(to(0, 0), to(5000000, 5000000), to(0, 5000000), to(7, 8)) {
		try("a weight", api.OK, func(i *input, n int) { i.b.Weight = s }, 0)
	}
	for _, s := range badSpans(20000000) {
		try("a strength", api.ErrArg, func(i *input, n int) { i.b.Strength = s }, 0)
	}
	for _, s := range list(to(0, 0), to(20000000, 20000000), to(0, 20000000), to(7, 8)) {
		try("a strength", api.OK, func(i *input, n int) { i.b.Strength = s }, 0)
	}
	try("nothing", api.ErrArg, func(i *input, n int) { i.p, i.b = api.PalletBase{}, api.PalletBox{} }, 0)
}

// layerErrors are layers on the chapter's pallet, and what is wrong with them.
func layerErrors() map[string]struct {
	layer []api.PalletPlace
	e     api.Errno
} {
	out, into := list(at(81, 0)), list(at(0, 0), at(39, 0))
	return map[string]struct {
		layer []api.PalletPlace
		e     api.Errno
	}{
		"201 places":         {make([]api.PalletPlace, 201), api.ErrLong},
		"long before form":   {slices.Repeat(list(at(141, 0)), 201), api.ErrLong},
		"long before state":  {slices.Repeat(out, 201), api.ErrLong},
		"X -1":               {list(at(-1, 0)), api.ErrForm},
		"Y -1":               {list(at(0, -1)), api.ErrForm},
		"X 141":              {list(at(141, 0)), api.ErrForm},
		"Y 141":              {list(tu(0, 141)), api.ErrForm},
		"the greatest X":     {list(at(math.MaxInt, 0)), api.ErrForm},
		"the greatest Y":     {list(at(0, math.MaxInt)), api.ErrForm},
		"the least X":        {list(at(math.MinInt, 0)), api.ErrForm},
		"the least Y":        {list(tu(0, math.MinInt)), api.ErrForm},
		"the last place":     {list(at(0, 0), at(40, 0), at(80, -1)), api.ErrForm},
		"200 with one wrong": {append(make([]api.PalletPlace, 199), at(-1, 0)), api.ErrForm},
		"form before out":    {append(out, at(0, 141)), api.ErrForm},
		"form before into":   {append(into, at(-1, 0)), api.ErrForm},
		"X 140":              {list(at(140, 0)), api.ErrState},
		"Y 140":              {list(at(0, 140)), api.ErrState},
		"out along":          {out, api.ErrState},
		"out across":         {list(at(0, 51)), api.ErrState},
		"turned, out across": {list(tu(0, 41)), api.ErrState},
		"into":               {into, api.ErrState},
		"200 places":         {make([]api.PalletPlace, 200), api.ErrState},
		"the last one out":   {append(three(), at(80, 51)), api.ErrState},
		"the last one into":  {append(three(), at(79, 0)), api.ErrState},
		"three boxes":        {three(), api.OK},
		"eight boxes":        {eight(), api.OK},
	}
}

// P9.1, P9.2, P9.5, P9.6, P9.7, P9.8: what is wrong with layers, before the table and days.
func TestLayerErrors(t *testing.T) {
	for name, c := range layerErrors() {
		i := good(func(i *input) { i.layer, i.keep, i.days = c.layer, list(step(0, 1001)), -1 })
		late := c.e
		if c.e == api.OK {
			late = api.ErrForm
		}
		expect(t, name, i, late, "Layers")
		expect(t, name, i, c.e, "Turn", "Rests", "Bind")
		fault := c.e
		switch c.e {
		case api.ErrState:
			fault = api.OK
		case api.OK:
			fault = api.ErrNone
		}
		expect(t, name, i, fault, "Fault")
		// The turn comes before a layer that is wrong, but not before what has not its form.
		ranged := c.e
		if c.e == api.OK || c.e == api.ErrState {
			ranged = api.ErrRange
		}
		for _, turn := range list(-1, 4, math.MinInt, math.MaxInt) {
			i.turn = turn
			expect(t, name, i, ranged, "Turn")
		}
		for turn := range 4 {
			i.turn = turn
			expect(t, name, i, c.e, "Turn")
		}
		expect(t, name+" above", good(func(i *input) { i.other = c.layer }), c.e, "Rests")
		for other, d := range layerErrors() {
			// The errors of both come before a layer that is wrong; of those, and of two that are wrong, the one below decides.
			want := c.e
			if c.e == api.OK || c.e == api.ErrState && d.e != api.OK {
				want = d.e
			}
			expect(t, name+" below "+other, good(func(i *input) { i.layer, i.other = c.layer, d.layer }), want, "Rests")
		}
	}
}

// P9.8: a layer without a box, then the table and the days as High has them.
func TestLayersErrors(t *testing.T) {
	for name, c := range map[string]struct {
		keep []api.CrushStep
		days int
		e    api.Errno
	}{
		"no table":            {nil, 0, api.ErrForm},
		"an empty table":      {[]api.CrushStep{}, 0, api.ErrForm},
		"form before range":   {nil, -1, api.ErrForm},
		"not from the day 0":  {list(step(1, 1000)), 0, api.ErrForm},
		"a Keep of 1001":      {list(step(0, 1001)), 0, api.ErrForm},
		"a Keep of -1":        {list(step(0, -1)), 0, api.ErrForm},
		"a Keep that grows":   {list(step(0, 500), step(1, 501)), 0, api.ErrForm},
		"a day twice":         {list(step(0, 500), step(1, 500), step(1, 500)), 0, api.ErrForm},
		"a day after the end": {list(step(0, 500), step(10001, 500)), 0, api.ErrForm},
		"eleven steps":        {slices.Repeat(list(step(0, 0)), 11), 0, api.ErrForm},
		"the days -1":         {list(step(0, 1000)), -1, api.ErrRange},
		"the days 10001":      {list(step(0, 1000)), 10001, api.ErrRange},
		"the least days":      {list(step(0, 1000)), math.MinInt, api.ErrRange},
		"the most days":       {list(step(0, 1000)), math.MaxInt, api.ErrRange},
		"the day 0":           {list(step(0, 1000)), 0, api.OK},
		"the day 10000":       {list(step(0, 1000), step(10000, 0)), 10000, api.OK},
	} {
		change := func(i *input) { i.keep, i.days = c.keep, c.days }
		expect(t, name, good(change), c.e, "Layers")
		for _, none := range list(nil, []api.PalletPlace{}) {
			i := good(change)
			i.layer = none
			expect(t, name+", no box", i, api.ErrNone, "Layers")
		}
		// So it is where no layer can lie.
		i := good(change)
		i.p.High, i.p.Top, i.p.Load = 400, 0, 0
		expect(t, name+", no layer", i, c.e, "Layers")
	}
}

// P9.9, P9.10: what is wrong with a lorry, and with the pallets on it.
func TestLorryErrors(t *testing.T) {
	lorry := func(long, front, back, frontMost, backMost int) api.PalletLorry {
		return api.PalletLorry{Long: long, Front: front, Back: back, FrontMost: frontMost, BackMost: backMost}
	}
	many := slices.Repeat(list(item(0, 1, 0)), 8)
	for l, e := range map[api.PalletLorry]api.Errno{
		{}:                                  api.ErrArg,
		lorry(0, 0, 0, 1, 1):                api.ErrArg,
		lorry(0, 0, 1, 1, 1):                api.ErrArg,
		lorry(-1, -2, -1, 1, 1):             api.ErrArg,
		lorry(2001, 0, 1, 1, 1):             api.ErrArg,
		lorry(math.MaxInt, 0, 1, 1, 1):      api.ErrArg,
		lorry(math.MinInt, 0, 1, 1, 1):      api.ErrArg,
		lorry(9, -1, 1, 1, 1):               api.ErrArg,
		lorry(9, -2, -1, 1, 1):              api.ErrArg,
		lorry(9, 0, 10, 1, 1):               api.ErrArg,
		lorry(9, 10, 11, 1, 1):              api.ErrArg,
		lorry(9, 10, 9, 1, 1):               api.ErrArg,
		lorry(9, 4, 4, 1, 1):                api.ErrArg,
		lorry(9, 5, 4, 1, 1):                api.ErrArg,
		lorry(9, 0, 0, 1, 1):                api.ErrArg,
		lorry(9, math.MinInt, 1, 1, 1):      api.ErrArg,
		lorry(9, 1, math.MaxInt, 1, 1):      api.ErrArg,
		lorry(9, 0, 1, -1, 1):               api.ErrArg,
		lorry(9, 0, 1, 1, -1):               api.ErrArg,
		lorry(9, 0, 1, 40000001, 1):         api.ErrArg,
		lorry(9, 0, 1, 1, 40000001):         api.ErrArg,
		lorry(9, 0, 1, math.MaxInt, 1):      api.ErrArg,
		lorry(9, 0, 1, 1, math.MinInt):      api.ErrArg,
		lorry(1, 0, 1, 0, 0):                api.OK,
		lorry(2000, 0, 2000, 1, 1):          api.OK,
		lorry(2000, 1999, 2000, 1, 1):       api.OK,
		lorry(9, 0, 1, 40000000, 40000000):  api.OK,
		lorry(9, 8, 9, 0, 40000000):         api.OK,
		lorry(600, 100, 500, 40000000, 500): api.OK,
	} {
		expect(t, "a lorry", good(func(i *input) { i.l, i.items = l, nil }), e, "Axles", "Order")
		late := e
		if e == api.OK {
			late = api.ErrLong
		}
		expect(t, "a lorry, and eight pallets", good(func(i *input) { i.l, i.items = l, many }), late, "Axles", "Order")
	}
	expect(t, "eight good pallets", good(func(i *input) { i.items = slices.Repeat(list(item(1, 0, 0)), 8) }), api.ErrLong, "Axles", "Order")
	expect(t, "seven pallets", good(func(i *input) { i.items = slices.Repeat(list(item(1, 0, 0)), 7) }), api.OK, "Axles", "Order")
	expect(t, "eight pallets that are too long", good(func(i *input) { i.items = slices.Repeat(list(item(2000, 0, 0)), 8) }), api.ErrLong, "Axles", "Order")
}

// P9.9, P9.10: what is wrong with pallets, and with how long they are together.
func TestItemErrors(t *testing.T) {
	wrong := list(item(0, 1, 1), item(-1, 1, 1), item(2001, 1, 1), item(math.MaxInt, 1, 1), item(math.MinInt, 1, 1), item(601, 1, 0))
	for _, s := range badSpans(5000000) {
		wrong = append(wrong, api.PalletItem{Long: 1, Weight: s})
	}
	fine, long := item(100, 0, 0), item(2000, 0, 0)
	for _, bad := range wrong {
		for _, items := range list(list(bad), list(bad, fine), list(fine, bad), list(long, bad), list(fine, fine, fine, fine, fine, fine, bad), slices.Repeat(list(bad), 7)) {
			expect(t, "a pallet", good(func(i *input) { i.items = items }), api.ErrForm, "Axles", "Order")
		}
	}
	for _, items := range list(list(item(601, 0, 0)), list(long), slices.Repeat(list(long), 7), list(item(300, 0, 0), item(301, 0, 0)), list(item(1, 0, 0), item(600, 0, 0))) {
		expect(t, "too long", good(func(i *input) { i.items = items }), api.ErrRange, "Axles", "Order")
	}
	for _, items := range list(nil, []api.PalletItem{}, list(item(600, 0, 0)), list(item(300, 0, 0), item(300, 0, 5000)), list(item(1, 0, 0), item(599, 0, 0)), append(slices.Repeat(list(fine), 5), item(99, 0, 0), item(1, 0, 0))) {
		expect(t, "as long as can be", good(func(i *input) { i.items = items }), api.OK, "Axles", "Order")
	}
	greatest := api.PalletLorry{Long: 2000, Back: 2000, FrontMost: 40000000, BackMost: 40000000}
	expect(t, "the longest", good(func(i *input) { i.l, i.items = greatest, list(item(2000, 0, 5000000)) }), api.OK, "Axles", "Order")
	// The errors of a lorry come before what its axles do not bear.
	none := api.PalletLorry{Long: 600, Back: 600}
	expect(t, "no axle bears it", good(func(i *input) { i.l, i.items = none, list(item(600, 0, 1)) }), api.ErrState, "Order")
	expect(t, "no axle bears it", good(func(i *input) { i.l, i.items = none, list(item(600, 0, 1)) }), api.OK, "Axles")
	expect(t, "no axle bears it", good(func(i *input) { i.l, i.items = none, list(item(601, 0, 1)) }), api.ErrRange, "Order")
}

// R3: nil lists and empty ones are the same.
func TestEmpty(t *testing.T) {
	p, b := chapterBase(), chapterBox()
	for _, none := range list(nil, []api.PalletPlace{}) {
		turned, e := pallet.Turn(p, b, none, 3)
		rests, f := pallet.Rests(p, b, three(), none)
		over, g := pallet.Rests(p, b, none, three())
		turn, boxes, h := pallet.Bind(p, b, none)
		_, _, j := pallet.Fault(p, b, none)
		if len(turned)+len(rests)+turn+boxes > 0 || e+f+g+h != api.OK || j != api.ErrNone {
			t.Error(turned, rests, turn, boxes, e, f, g, h, j)
		}
		if !sameRests(over, make([]api.PalletRest, 3)) {
			t.Error(over)
		}
		items := []api.PalletItem{}[:len(none)]
		front, back, e := pallet.Axles(chapterLorry(), items)
		order, f := pallet.Order(api.PalletLorry{Long: 1, Back: 1}, items)
		if front != to(0, 0) || back != to(0, 0) || len(order) > 0 || e+f != api.OK {
			t.Error(front, back, order, e, f)
		}
	}
}

// spare returns a list with spare room, full the list with that room.
func spare[E any](list []E) []E { return append(make([]E, 0, 20), list...) }

func full[E any](list []E) []E { return list[:cap(list)] }

// spareInput returns valid arguments in which all lists have spare room, fullInput arguments with that room.
func spareInput() input {
	return good(func(i *input) {
		i.layer, i.other, i.keep, i.items = spare(i.layer), spare(i.other), spare(i.keep), spare(i.items)
	})
}

func fullInput(i input) input {
	i.layer, i.other, i.keep, i.items = full(i.layer), full(i.other), full(i.keep), full(i.items)
	return i
}

// P2, R4: no argument is changed, nor the spare room behind it; results are new memory, and equal for equal arguments.
func TestMemory(t *testing.T) {
	i, before := spareInput(), spareInput()
	var laid []api.PalletPlace
	for range 2 {
		for f, e := range errorsWith(t, i) {
			if e != api.OK && f != "Fault" {
				t.Error(f, e)
			}
		}
		lay, _ := pallet.Lay(i.p, i.b)
		if laid != nil && !slices.Equal(lay, laid) {
			t.Error(lay, laid)
		}
		laid = slices.Clone(lay)
		as, _ := pallet.Turn(i.p, i.b, i.layer, 0)
		turned, _ := pallet.Turn(i.p, i.b, i.layer, 1)
		rests, _ := pallet.Rests(i.p, i.b, i.layer, i.other)
		order, _ := pallet.Order(i.l, i.items)
		if !slices.Equal(as, three()) || !slices.Equal(turned, list(at(80, 50), at(40, 50), at(80, 20))) || !slices.Equal(order, list(0, 1)) {
			t.Error(as, turned, order)
		}
		// What is written over here must be seen nowhere else, neither in arguments nor in other parts of results.
		want, _ := trueRests(i.b, i.layer, i.other)
		for number := range rests {
			if !slices.Equal(rests[number].On, want[number].On) {
				t.Error(number, rests[number], want[number])
			}
			clear(full(rests[number].On))
		}
		clear(full(rests))
		for _, places := range list(lay, as, turned) {
			clear(full(places))
		}
		clear(full(order))
		if !reflect.DeepEqual(fullInput(i), fullInput(before)) {
			t.Error(i)
		}
	}
}

// P1: with the least and the greatest numbers, and none at all, each function ends.
func TestAnyArguments(t *testing.T) {
	numbers := list(math.MinInt, -1, 0, 1, 10, 120, math.MaxInt)
	for _, a := range numbers {
		for _, b := range numbers {
			p, x := chapterBase(), chapterBox()
			p.Long, p.Over, x.Wide = a, b, b
			layer := list(at(a, b), tu(b, a))
			l, items := chapterLorry(), list(item(a, b, a), item(b, a, b))
			for _, i := range list(
				input{p: p, b: chapterBox(), layer: layer, other: three(), turn: a, keep: list(step(a, b)), days: b, l: l, items: items},
				input{p: chapterBase(), b: x, layer: three(), other: layer, turn: b, keep: list(step(0, a), step(b, a)), days: a, l: api.PalletLorry{Long: a, Front: b, Back: a, FrontMost: b, BackMost: a}, items: items},
				input{p: chapterBase(), b: chapterBox(), layer: layer, other: layer, turn: 3, keep: list(step(0, 10)), days: a, l: api.PalletLorry{Long: 120, Front: a, Back: b, FrontMost: 9, BackMost: 9}, items: list(item(a, b, b))},
				input{p: api.PalletBase{Long: a, Wide: a, High: b, Over: a, Top: a, Load: b}, b: api.PalletBox{Long: a, Wide: b, High: a, Weight: to(a, b), Strength: to(b, a)}, layer: layer[:1], l: l},
			) {
				errorsWith(t, i)
			}
		}
	}
}
