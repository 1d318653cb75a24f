package trim_test

import (
	"math"
	"reflect"
	"slices"
	"testing"

	"testliner/api"
	"testliner/trim"
)

// input is an argument for all functions.
type input struct {
	paper            api.TrimPaper
	papers           []api.TrimPaper
	orders           []api.TrimOrder
	webs, from, to   []int
	plan             []api.TrimSetup
	at, done         int
	length, run, off int
}

// good returns arguments that are valid for all functions but Against (for which there is a plan), good but for what change does.
func good(change func(x *input)) input {
	x := input{
		paper: chapterPaper(400), orders: chapterOrders(),
		webs: n(2, 1, 0), from: n(100, 900, 1700, 2400), to: n(50, 1250, 2450),
		plan: chapterPlan(), at: 2, done: 3, length: 1000, run: 1, off: 10,
	}
	change(&x)
	if x.papers == nil {
		x.papers = []api.TrimPaper{x.paper}
	}
	return x
}

// errorsWith returns the errors of all functions, and checks that all else that they return is zero if there is one (but at of Get).
func errorsWith(t *testing.T, x input) map[string]api.Errno {
	t.Helper()
	got := map[string]api.Errno{}
	add := func(name string, e api.Errno, results ...any) {
		got[name] = e
		for _, y := range results {
			v := reflect.ValueOf(y)
			if e != api.OK && !v.IsZero() && !(v.Kind() == reflect.Slice && v.Len() == 0) {
				t.Errorf("%s: %d with %v", name, e, y)
			}
		}
	}
	add("Check", trim.Check(x.paper, x.orders))
	patterns, e := trim.Patterns(x.paper, x.orders)
	add("Patterns", e, patterns)
	lost, e := trim.Trim(x.paper, x.orders, x.webs)
	add("Trim", e, lost)
	places, e := trim.Knives(x.paper, x.orders, x.webs)
	add("Knives", e, places)
	moved, e := trim.Change(x.from, x.to)
	add("Change", e, moved)
	amounts, waste, at, e := trim.Get(x.paper, x.orders, x.plan)
	add("Get", e, amounts, waste)
	if at != 0 && (e == api.OK || e == trim.Check(x.paper, x.orders)) {
		t.Errorf("Get: %d at %d", e, at)
	}
	plan, e := trim.Plan(x.paper, x.orders)
	add("Plan", e, plan)
	paper, e := trim.Choose(x.papers, x.orders)
	add("Choose", e, paper)
	setups, run, waste, e := trim.Bound(x.paper, x.orders)
	add("Bound", e, setups, run, waste)
	against, e := trim.Against(x.paper, x.orders)
	add("Against", e, against)
	left, e := trim.Rest(x.paper, x.orders, x.plan, x.at, x.done)
	add("Rest", e, left)
	sheets, e := trim.Sheets(x.length, x.run, x.off)
	add("Sheets", e, sheets)
	return got
}

// expect checks that some functions have an error.
func expect(t *testing.T, name string, x input, e api.Errno, functions ...string) {
	t.Helper()
	got := errorsWith(t, x)
	for _, f := range functions {
		if got[f] != e {
			t.Errorf("%s: %s: %d, want %d", name, f, got[f], e)
		}
	}
}

// jobs are the functions that have a paper and orders.
func jobs() []string {
	return []string{"Check", "Patterns", "Trim", "Knives", "Get", "Plan", "Choose", "Bound", "Against", "Rest"}
}

// worse makes all that comes after a paper and orders invalid.
func worse(x *input) {
	x.webs, x.plan, x.at, x.done = n(9), make([]api.TrimSetup, 4), -1, -1
}

// P4.1: what is wrong with a paper, before all else, and the limits that can just be reached.
func TestPaperErrors(t *testing.T) {
	for i, c := range []struct {
		paper api.TrimPaper
		e     api.Errno
	}{
		{api.TrimPaper{}, api.ErrArg},
		{api.TrimPaper{Wide: 1, Webs: 1}, api.OK},
		{api.TrimPaper{Wide: 3000, Webs: 4}, api.OK},
		{api.TrimPaper{Wide: 0, Webs: 1}, api.ErrArg},
		{api.TrimPaper{Wide: -1, Webs: 1}, api.ErrArg},
		{api.TrimPaper{Wide: 3001, Webs: 1}, api.ErrArg},
		{api.TrimPaper{Wide: math.MaxInt, Webs: 1}, api.ErrArg},
		{api.TrimPaper{Wide: math.MinInt, Webs: 1}, api.ErrArg},
		{api.TrimPaper{Wide: 5, Trim: to(0, 3000), Webs: 1}, api.OK},
		{api.TrimPaper{Wide: 5, Trim: to(3000, 3000), Webs: 1}, api.OK},
		{api.TrimPaper{Wide: 5, Trim: to(-1, 5), Webs: 1}, api.ErrArg},
		{api.TrimPaper{Wide: 5, Trim: to(0, 3001), Webs: 1}, api.ErrArg},
		{api.TrimPaper{Wide: 5, Trim: to(3, 2), Webs: 1}, api.ErrArg},
		{api.TrimPaper{Wide: 5, Trim: to(math.MinInt, math.MaxInt), Webs: 1}, api.ErrArg},
		{api.TrimPaper{Wide: 5, Trim: to(0, 5), Webs: 0}, api.ErrArg},
		{api.TrimPaper{Wide: 5, Trim: to(0, 5), Webs: -1}, api.ErrArg},
		{api.TrimPaper{Wide: 5, Trim: to(0, 5), Webs: 5}, api.ErrArg},
		{api.TrimPaper{Wide: 5, Trim: to(0, 5), Webs: math.MaxInt}, api.ErrArg},
	} {
		if e := trim.Check(c.paper, nil); e != c.e {
			t.Error(i, e)
		}
		if c.e == api.OK {
			continue
		}
		expect(t, "paper", good(func(x *input) {
			x.paper, x.orders = c.paper, make([]api.TrimOrder, 5)
			worse(x)
		}), api.ErrArg, jobs()...)
	}
}

// P4.1: what is wrong with orders: first that there are too many, then what is wrong with one.
func TestOrderErrors(t *testing.T) {
	with := func(l []api.TrimOrder) input {
		return good(func(x *input) {
			x.orders = l
			worse(x)
		})
	}
	expect(t, "five", with(make([]api.TrimOrder, 5)), api.ErrLong, jobs()...)
	expect(t, "five good ones", with(slices.Repeat([]api.TrimOrder{order(9, 0, 0)}, 5)), api.ErrLong, jobs()...)
	expect(t, "four", with(make([]api.TrimOrder, 4)), api.ErrForm, jobs()...)
	for _, o := range []api.TrimOrder{
		order(0, 0, 0), order(-1, 0, 0), order(3001, 0, 0), order(math.MaxInt, 0, 0), order(math.MinInt, 0, 0),
		order(9, -1, 0), order(9, 0, 101), order(9, 101, 101), order(9, 6, 5), order(9, math.MaxInt, math.MinInt), order(9, math.MinInt, math.MaxInt),
	} {
		expect(t, "first", with([]api.TrimOrder{o, order(9, 0, 0)}), api.ErrForm, jobs()...)
		expect(t, "last", with([]api.TrimOrder{order(9, 0, 0), order(9, 0, 0), order(9, 0, 0), o}), api.ErrForm, jobs()...)
	}
	for _, l := range [][]api.TrimOrder{nil, {}, {order(1, 0, 0)}, {order(3000, 0, 100)}, {order(9, 100, 100)}, slices.Repeat([]api.TrimOrder{order(9, 0, 0)}, 4)} {
		if e := trim.Check(chapterPaper(200), l); e != api.OK {
			t.Error(l, e)
		}
	}
}

// P4.1: Choose has an error of its papers, first of their number, then paper by paper.
func TestPaperListErrors(t *testing.T) {
	ok, bad := chapterPaper(400), api.TrimPaper{}
	for name, c := range map[string]struct {
		papers []api.TrimPaper
		orders []api.TrimOrder
		e      api.Errno
	}{
		"five":                         {slices.Repeat([]api.TrimPaper{bad}, 5), make([]api.TrimOrder, 5), api.ErrLong},
		"none":                         {[]api.TrimPaper{}, make([]api.TrimOrder, 5), api.ErrNone},
		"four":                         {slices.Repeat([]api.TrimPaper{ok}, 4), chapterOrders(), api.OK},
		"the last one":                 {[]api.TrimPaper{ok, ok, ok, bad}, chapterOrders(), api.ErrArg},
		"the last one, and none do":    {[]api.TrimPaper{chapterPaper(200), bad}, chapterOrders(), api.ErrArg},
		"many orders of the first one": {[]api.TrimPaper{ok, bad}, make([]api.TrimOrder, 5), api.ErrLong},
		"orders of the first one":      {[]api.TrimPaper{ok, bad}, make([]api.TrimOrder, 4), api.ErrForm},
		"the first one":                {[]api.TrimPaper{bad, ok}, make([]api.TrimOrder, 5), api.ErrArg},
		"none do":                      {[]api.TrimPaper{chapterPaper(200), chapterPaper(200)}, chapterOrders(), api.ErrState},
	} {
		x := good(func(x *input) { x.papers, x.orders = c.papers, c.orders })
		expect(t, name, x, c.e, "Choose")
	}
	if _, e := trim.Choose(nil, nil); e != api.ErrNone {
		t.Error(e)
	}
}

// P4.2, P4.3: the errors of webs, of which the form comes first.
func TestWebErrors(t *testing.T) {
	for _, c := range []struct {
		webs []int
		e    api.Errno
	}{
		{nil, api.ErrForm},
		{n(0, 0), api.ErrForm},
		{n(0, 0, 2, 0), api.ErrForm},
		{n(0, 0, -1), api.ErrForm},
		{n(5, 0, 0), api.ErrForm},
		{n(0, 0, 5), api.ErrForm},
		{n(math.MaxInt, math.MaxInt, 2), api.ErrForm},
		{n(math.MinInt, 0, 0), api.ErrForm},
		{n(0, 0, 0), api.ErrNone},
		{n(4, 4, 4), api.ErrNone},
		{n(1, 1, 1), api.ErrNone},
		{n(1, 0, 1), api.ErrNone},
		{n(0, 0, 1), api.ErrNone},
		{n(4, 0, 0), api.ErrNone},
		{n(0, 0, 2), api.OK},
		{n(0, 3, 0), api.OK},
	} {
		expect(t, "webs", good(func(x *input) { x.webs = c.webs }), c.e, "Trim", "Knives")
	}
	if _, e := trim.Trim(chapterPaper(400), nil, nil); e != api.ErrNone {
		t.Error(e)
	}
}

// P4.4: the errors of places, of which too many come first, of from and of to.
func TestPlaceErrors(t *testing.T) {
	ten, eleven := n(0, 1, 2, 3, 4, 5, 6, 7, 8, 3000), n(0, 1, 2, 3, 4, 5, 6, 7, 8, 9, 10)
	for _, c := range []struct {
		places []int
		e      api.Errno
	}{
		{eleven, api.ErrLong}, {make([]int, 11), api.ErrLong},
		{make([]int, 10), api.ErrForm}, {n(-1), api.ErrForm}, {n(3001), api.ErrForm}, {n(5, 5), api.ErrForm}, {n(1, 2, 9, 8), api.ErrForm},
		{n(math.MinInt), api.ErrForm}, {n(0, math.MaxInt), api.ErrForm}, {n(math.MaxInt, math.MinInt), api.ErrForm}, {n(4, math.MinInt), api.ErrForm},
		{nil, api.OK}, {n(), api.OK}, {ten, api.OK}, {n(0), api.OK}, {n(3000), api.OK},
	} {
		for _, other := range [][]int{nil, ten, n(7)} {
			expect(t, "from", good(func(x *input) { x.from, x.to = c.places, other }), c.e, "Change")
			expect(t, "to", good(func(x *input) { x.from, x.to = other, c.places }), c.e, "Change")
		}
		if c.e == api.ErrForm {
			expect(t, "long before form", good(func(x *input) { x.from, x.to = c.places, eleven }), api.ErrLong, "Change")
			expect(t, "long before form", good(func(x *input) { x.from, x.to = eleven, c.places }), api.ErrLong, "Change")
		}
	}
}

// P4.5, P4.9: the errors of a plan, and where they are; Rest has the same ones, before those of where the web breaks.
func TestPlanErrors(t *testing.T) {
	good2 := setup(2, 0, 0, 2)
	for name, c := range map[string]struct {
		plan []api.TrimSetup
		at   int
		e    api.Errno
	}{
		"four":                      {make([]api.TrimSetup, 4), 0, api.ErrLong},
		"four good ones":            {append(chapterPlan(), setup(1, 3, 0, 0)), 0, api.ErrLong},
		"no numbers":                {[]api.TrimSetup{{Run: 1}}, 0, api.ErrForm},
		"a number less":             {[]api.TrimSetup{good2, setup(0, 0, 3)}, 1, api.ErrForm},
		"a number above 4":          {[]api.TrimSetup{good2, setup(1, 0, 3, 0), setup(1, 5, 0, 0)}, 2, api.ErrForm},
		"no webs":                   {[]api.TrimSetup{setup(0, 0, 0, 0)}, 0, api.ErrNone},
		"no pattern":                {[]api.TrimSetup{good2, setup(0, 0, 2, 0)}, 1, api.ErrNone},
		"form before none":          {[]api.TrimSetup{setup(0, 0, 2, 0), setup(0, 0)}, 0, api.ErrNone},
		"run 0":                     {[]api.TrimSetup{setup(0, 0, 0, 2)}, 0, api.ErrRange},
		"run -1":                    {[]api.TrimSetup{good2, setup(-1, 0, 3, 0)}, 1, api.ErrRange},
		"run 31":                    {[]api.TrimSetup{good2, setup(31, 0, 3, 0)}, 1, api.ErrRange},
		"greatest run":              {[]api.TrimSetup{setup(math.MaxInt, 0, 0, 2)}, 0, api.ErrRange},
		"least run":                 {[]api.TrimSetup{setup(math.MinInt, 0, 0, 2)}, 0, api.ErrRange},
		"the same webs":             {[]api.TrimSetup{good2, good2}, 1, api.ErrTwice},
		"the same webs with run 0":  {[]api.TrimSetup{good2, setup(0, 0, 0, 2)}, 1, api.ErrRange},
		"the same webs, other run":  {[]api.TrimSetup{good2, setup(1, 0, 3, 0), setup(2, 0, 3, 0)}, 2, api.ErrTwice},
		"smaller webs":              {[]api.TrimSetup{setup(1, 0, 3, 0), good2}, 1, api.ErrTwice},
		"smaller than one before":   {[]api.TrimSetup{setup(1, 0, 3, 0), setup(5, 2, 1, 0), good2}, 2, api.ErrTwice},
		"twice before a later form": {[]api.TrimSetup{good2, good2, setup(1, 9)}, 1, api.ErrTwice},
		"nothing":                   {nil, 0, api.ErrState},
		"too little for 1":          {[]api.TrimSetup{good2, setup(4, 3, 0, 0)}, 1, api.ErrState},
		"too much for 1":            {[]api.TrimSetup{good2, setup(2, 0, 3, 0), setup(5, 2, 1, 0)}, 1, api.ErrState},
		"too much for 0":            {[]api.TrimSetup{good2, setup(9, 2, 1, 0)}, 0, api.ErrState},
		"too little for 2":          {[]api.TrimSetup{setup(1, 0, 0, 2), setup(1, 0, 3, 0), setup(5, 2, 1, 0)}, 2, api.ErrState},
		"none":                      {chapterPlan(), 0, api.OK},
	} {
		x := good(func(x *input) { x.plan = c.plan })
		if _, _, at, e := trim.Get(x.paper, x.orders, x.plan); at != c.at || e != c.e {
			t.Errorf("%s: %d at %d, want %d at %d", name, e, at, c.e, c.at)
		}
		expect(t, name, x, c.e, "Rest")
		if c.e != api.OK {
			expect(t, name, good(func(x *input) { x.plan, x.at, x.done = c.plan, -1, -1 }), c.e, "Rest")
		}
	}
	for _, c := range []struct {
		at, done int
		e        api.Errno
	}{
		{0, 0, api.OK}, {0, 2, api.OK}, {2, 5, api.OK}, {-1, 0, api.ErrRange}, {3, 0, api.ErrRange}, {0, -1, api.ErrRange}, {0, 3, api.ErrRange}, {1, 2, api.ErrRange}, {2, 6, api.ErrRange},
		{math.MaxInt, 0, api.ErrRange}, {math.MinInt, 0, api.ErrRange}, {0, math.MaxInt, api.ErrRange}, {0, math.MinInt, api.ErrRange},
	} {
		expect(t, "break", good(func(x *input) { x.at, x.done = c.at, c.done }), c.e, "Rest")
	}
	// A plan without set-ups breaks nowhere.
	expect(t, "no set-ups", good(func(x *input) { x.orders, x.plan, x.at, x.done = nil, nil, 0, 0 }), api.ErrRange, "Rest")
}

// P4.6 to P4.8: what there is not: a plan, a bound, orders against each other.
func TestNoneErrors(t *testing.T) {
	expect(t, "no plan", good(func(x *input) { x.paper = chapterPaper(200) }), api.ErrState, "Plan", "Choose")
	expect(t, "a plan", good(func(x *input) {}), api.ErrNone, "Against")
	expect(t, "no orders", good(func(x *input) { x.orders = nil }), api.ErrNone, "Against")
	for wide, e := range map[int]api.Errno{19: api.ErrNone, 20: api.ErrNone, 21: api.OK} {
		expect(t, "bound", good(func(x *input) { x.paper.Wide = wide }), e, "Bound")
		expect(t, "bound", good(func(x *input) { x.paper.Wide, x.orders = wide, nil }), e, "Bound")
	}
}

// P4.10: what is wrong with sheets.
func TestSheetErrors(t *testing.T) {
	for _, c := range []struct {
		length, run, off int
		e                api.Errno
	}{
		{100, 0, 0, api.OK}, {5000, 30, 20, api.OK},
		{99, -1, -1, api.ErrArg}, {5001, 31, 21, api.ErrArg}, {0, 1, 1, api.ErrArg}, {math.MinInt, 1, 1, api.ErrArg}, {math.MaxInt, 1, 1, api.ErrArg},
		{100, -1, 0, api.ErrRange}, {100, 31, 0, api.ErrRange}, {100, math.MaxInt, 0, api.ErrRange}, {100, math.MinInt, 0, api.ErrRange},
		{100, 0, -1, api.ErrRange}, {100, 0, 21, api.ErrRange}, {100, 0, math.MaxInt, api.ErrRange}, {100, 0, math.MinInt, api.ErrRange},
	} {
		expect(t, "sheets", good(func(x *input) { x.length, x.run, x.off = c.length, c.run, c.off }), c.e, "Sheets")
	}
}

// P2, R4: no argument is changed, nor the spare room behind it; results are new memory, and equal for equal arguments.
func TestMemory(t *testing.T) {
	spare := func() input {
		return good(func(x *input) {
			x.orders = append(make([]api.TrimOrder, 0, 9), x.orders...)
			x.webs = append(make([]int, 0, 9), x.webs...)
			x.from, x.to = append(make([]int, 0, 19), x.from...), append(make([]int, 0, 19), x.to...)
			x.plan = make([]api.TrimSetup, 0, 9)
			for _, s := range chapterPlan() {
				x.plan = append(x.plan, setup(s.Run, append(make([]int, 0, 9), s.Webs...)...))
			}
			x.papers = append(make([]api.TrimPaper, 0, 9), x.paper)
		})
	}
	x, before := spare(), spare()
	for range 2 {
		for f, e := range errorsWith(t, x) {
			if e != api.OK && f != "Against" {
				t.Error(f, e)
			}
		}
		patterns, _ := trim.Patterns(x.paper, x.orders)
		places, _ := trim.Knives(x.paper, x.orders, x.webs)
		got, _, _, _ := trim.Get(x.paper, x.orders, x.plan)
		plan, _ := trim.Plan(x.paper, x.orders)
		against, _ := trim.Against(chapterPaper(200), x.orders)
		left, _ := trim.Rest(x.paper, x.orders, x.plan, x.at, x.done)
		if !reflect.DeepEqual(patterns, [][]int{{0, 0, 2}, {0, 3, 0}, {1, 2, 0}, {2, 1, 0}, {3, 0, 0}}) || !slices.Equal(places, n(100, 900, 1700, 2400)) || !slices.Equal(got, n(10, 8, 4)) ||
			!same(plan, chapterPlan()) || !slices.Equal(against, n(1)) || !slices.Equal(left, []api.TrimOrder{order(800, 4, 6), order(700, 2, 3), order(1200, 0, 0)}) {
			t.Error(patterns, places, got, plan, against, left)
		}
		// What is written over here must be seen nowhere else, neither in arguments nor in other parts of results.
		lists := append([][]int{places, got, against}, patterns...)
		for _, s := range plan {
			lists = append(lists, s.Webs)
		}
		for i, l := range lists {
			for j := range l[:cap(l)] {
				l[:cap(l)][j] = -5 - i
			}
		}
		for i, l := range lists {
			for _, x := range l {
				if x != -5-i {
					t.Error("shared", i, l)
				}
			}
		}
		clear(plan[:cap(plan)])
		clear(left[:cap(left)])
		if !reflect.DeepEqual(full(x), full(before)) {
			t.Error(x)
		}
	}
}

// full returns an argument with the spare room of its lists.
func full(x input) input {
	x.orders, x.webs, x.from, x.to = x.orders[:9], x.webs[:9], x.from[:19], x.to[:19]
	x.plan, x.papers = slices.Clone(x.plan[:9]), x.papers[:9]
	for i := range 3 {
		x.plan[i].Webs = x.plan[i].Webs[:9]
	}
	return x
}

// P1: with the least and the greatest numbers, and none at all, each function ends.
func TestAnyArguments(t *testing.T) {
	for _, a := range n(math.MinInt, -1, 0, 1, 4, math.MaxInt) {
		for _, b := range n(math.MinInt, -1, 0, 1, 4, math.MaxInt) {
			for _, p := range []api.TrimPaper{chapterPaper(400), {Wide: a, Trim: to(a, b), Webs: b}} {
				for _, l := range [][]api.TrimOrder{nil, {order(800, 0, 5), order(700, 0, 5)}, {order(a, a, b), order(b, b, a)}} {
					errorsWith(t, input{
						paper: p, papers: []api.TrimPaper{p, {Wide: b, Trim: to(b, a), Webs: a}}, orders: l,
						webs: n(a, b), from: n(a, b), to: n(b, a), plan: []api.TrimSetup{setup(a, b, a), setup(b, a, b)},
						at: a, done: b, length: a, run: b, off: a,
					})
				}
			}
		}
	}
}
