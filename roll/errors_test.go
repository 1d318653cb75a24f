package roll_test

import (
	"math"
	"reflect"
	"slices"
	"testing"

	"testliner/api"
	"testliner/roll"
)

// input is an argument for all functions.
type input struct {
	s, other api.RollStand
	orders   []api.RollOrder
	seen     []api.RollSeen
	store    api.BoardStore
	b        api.BoardMake
	long     int
}

// good returns arguments that are valid for all functions, good but for what change does.
func good(change func(i *input)) input {
	i := input{
		s: chapterStand(), other: stand(1, 1, 0, to(6041, 6100)),
		orders: list(whole(1500), order(1000), order(3000)), seen: list(at(0, 2010, 2012)),
		store: store(api.Ratio{Num: 12000, Den: 8000}), b: made(0), long: 1001,
	}
	change(&i)
	return i
}

// errorsWith returns the errors of all functions, and checks that all else that they return is zero if there is one.
func errorsWith(t *testing.T, i input) map[string]api.Errno {
	t.Helper()
	got := map[string]api.Errno{}
	add := func(name string, e api.Errno, results ...any) {
		got[name] = e
		for _, y := range results {
			v := reflect.ValueOf(y)
			if e != api.OK && !v.IsZero() && !(v.Kind() == reflect.Slice && v.Len() == 0) {
				t.Errorf("%s: %d with %v", name, e, y)
			}
		}
	}
	add("Check", roll.Check(i.s, i.orders))
	need, e := roll.Need(i.store, i.b, i.long)
	add("Need", e, need)
	lasts, e := roll.Lasts(i.s)
	add("Lasts", e, lasts)
	splices, e := roll.Splices(i.s)
	add("Splices", e, splices)
	lies, e := roll.Lies(i.s, i.orders)
	add("Lies", e, lies)
	number, splice, e := roll.Fault(i.s, i.orders)
	add("Fault", e, number, splice)
	rests, e := roll.Rests(i.s, i.orders)
	add("Rests", e, rests)
	first, e := roll.First(i.s, i.other)
	add("First", e, first)
	numbers, e := roll.Plan(i.s, i.orders)
	add("Plan", e, numbers)
	labels, e := roll.Labels(i.s, i.seen)
	add("Labels", e, labels)
	return got
}

// expect checks that some functions have an error.
func expect(t *testing.T, name string, i input, e api.Errno, functions ...string) {
	t.Helper()
	got := errorsWith(t, i)
	for _, f := range functions {
		if got[f] != e {
			t.Errorf("%s: %s: %d, want %d", name, f, got[f], e)
		}
	}
}

// P7.1: what is wrong with a stand, before all else of the functions that have one.
func TestStandErrors(t *testing.T) {
	bad := to(0, -1)
	for name, c := range map[string]struct {
		s api.RollStand
		e api.Errno
	}{
		"nothing":               {api.RollStand{}, api.ErrArg},
		"Den 0":                 {stand(0, 0, 0), api.ErrArg},
		"Den 0, Num 1":          {stand(1, 0, 0), api.ErrArg},
		"Den -1":                {stand(-1, -1, 0), api.ErrArg},
		"Den -2":                {stand(-3, -2, 0), api.ErrArg},
		"Den 10001":             {stand(10001, 10001, 0), api.ErrArg},
		"the greatest Den":      {stand(math.MaxInt, math.MaxInt, 0), api.ErrArg},
		"the least Den":         {stand(math.MinInt, math.MinInt, 0), api.ErrArg},
		"Den that turns over":   {stand(1<<62, 1<<62, 0), api.ErrArg},
		"Num below Den":         {stand(1, 2, 0), api.ErrArg},
		"Num just below Den":    {stand(9999, 10000, 0), api.ErrArg},
		"Num above twice Den":   {stand(3, 1, 0), api.ErrArg},
		"Num above 20000":       {stand(20001, 10000, 0), api.ErrArg},
		"Num -1":                {stand(-1, 1, 0), api.ErrArg},
		"the greatest Num":      {stand(math.MaxInt, 1, 0), api.ErrArg},
		"the least Num":         {stand(math.MinInt, 1, 0), api.ErrArg},
		"Tail -1":               {stand(1, 1, -1), api.ErrArg},
		"Tail 10001":            {stand(1, 1, 10001), api.ErrArg},
		"the greatest Tail":     {stand(1, 1, math.MaxInt), api.ErrArg},
		"the least Tail":        {stand(1, 1, math.MinInt), api.ErrArg},
		"Up before long":        {stand(1, 2, 0, slices.Repeat(list(bad), 7)...), api.ErrArg},
		"Tail before form":      {stand(1, 1, -1, bad), api.ErrArg},
		"Tail before long":      {stand(1, 1, 10001, slices.Repeat(list(bad), 7)...), api.ErrArg},
		"seven rolls":           {stand(1, 1, 0, slices.Repeat(list(to(1, 1)), 7)...), api.ErrLong},
		"long before form":      {stand(1, 1, 0, slices.Repeat(list(bad), 7)...), api.ErrLong},
		"a roll of 0":           {stand(1, 1, 0, to(0, 1)), api.ErrForm},
		"a roll of Tail":        {stand(1, 1, 100, to(100, 200)), api.ErrForm},
		"a roll within Tail":    {stand(1, 1, 100, to(50, 60)), api.ErrForm},
		"a roll of -1":          {stand(1, 1, 0, to(-1, 1)), api.ErrForm},
		"High below Low":        {stand(1, 1, 0, to(7, 6)), api.ErrForm},
		"a roll of 10000001":    {stand(1, 1, 0, to(1, 10000001)), api.ErrForm},
		"too long at Low":       {stand(1, 1, 0, to(10000001, 10000001)), api.ErrForm},
		"the last roll":         {stand(1, 1, 0, to(1, 1), to(1, 1), to(2, 1)), api.ErrForm},
		"the first roll":        {stand(1, 1, 0, to(0, 0), to(1, 1), to(1, 1)), api.ErrForm},
		"all numbers":           {stand(1, 1, 0, to(math.MinInt, math.MaxInt)), api.ErrForm},
		"no numbers":            {stand(1, 1, 0, to(math.MaxInt, math.MinInt)), api.ErrForm},
		"no rolls":              {stand(1, 1, 0), api.OK},
		"an empty list":         {stand(1, 1, 0, []api.Span{}...), api.OK},
		"the least take-up":     {stand(10000, 10000, 0, to(1, 1)), api.OK},
		"the greatest take-up":  {stand(20000, 10000, 0, to(1, 1)), api.OK},
		"twice":                 {stand(2, 1, 0, to(1, 1)), api.OK},
		"not in lowest terms":   {stand(6, 4, 0, to(1, 1)), api.OK},
		"the greatest tail":     {stand(1, 1, 10000, to(10001, 10000000)), api.OK},
		"as many as can be":     {stand(1, 1, 99, slices.Repeat(list(to(100, 10000000)), 6)...), api.OK},
		"as long as can be":     {greatestStand(), api.OK},
		"like rolls":            {stand(1, 1, 0, to(5, 5), to(5, 5)), api.OK},
		"the chapter's example": {chapterStand(), api.OK},
	} {
		if e := roll.Check(c.s, nil); e != c.e {
			t.Errorf("%s: %d, want %d", name, e, c.e)
		}
		expect(t, name, good(func(i *input) { i.s = c.s }), c.e, "Lasts", "Splices", "First")
		expect(t, name, good(func(i *input) { i.other = c.s }), c.e, "First")
		// The errors of a stand come before those of orders, and of what was seen.
		full := make([]api.RollOrder, 11)
		orders, seen := c.e, c.e
		if c.e == api.OK {
			orders, seen = api.ErrFull, api.ErrFull
		}
		worse := good(func(i *input) { i.s, i.orders, i.seen = c.s, full, make([]api.RollSeen, 13) })
		expect(t, name, worse, orders, "Check", "Lies", "Fault", "Rests", "Plan")
		expect(t, name, worse, seen, "Labels")
	}
}

// P7.1, P7.8: the errors of the first stand come before those of the second one.
func TestFirstErrors(t *testing.T) {
	kinds := []struct {
		s api.RollStand
		e api.Errno
	}{
		{stand(0, 0, 0), api.ErrArg}, {stand(1, 1, 0, make([]api.Span, 7)...), api.ErrLong}, {stand(1, 1, 0, to(0, 0)), api.ErrForm}, {chapterStand(), api.OK},
	}
	for _, a := range kinds {
		for _, b := range kinds {
			want := a.e
			if want == api.OK {
				want = b.e
			}
			expect(t, "first", good(func(i *input) { i.s, i.other = a.s, b.s }), want, "First")
		}
	}
}

// P7.1: what is wrong with orders.
func TestOrderErrors(t *testing.T) {
	short := stand(1, 1, 0)
	for name, c := range map[string]struct {
		orders []api.RollOrder
		e      api.Errno
	}{
		"eleven orders":     {slices.Repeat(list(order(1)), 11), api.ErrFull},
		"full before range": {make([]api.RollOrder, 11), api.ErrFull},
		"Long 0":            {list(order(0)), api.ErrRange},
		"Long -1":           {list(whole(-1)), api.ErrRange},
		"Long 5000001":      {list(order(5000001)), api.ErrRange},
		"the greatest Long": {list(order(math.MaxInt)), api.ErrRange},
		"the least Long":    {list(order(math.MinInt)), api.ErrRange},
		"the last order":    {list(order(1), order(1), whole(0)), api.ErrRange},
		"the first order":   {list(order(0), order(1), whole(1)), api.ErrRange},
		"none are as above": {make([]api.RollOrder, 10), api.ErrRange},
	} {
		// Before ErrNone and ErrState, too, which the short stand would have.
		for _, s := range list(chapterStand(), short) {
			expect(t, name, good(func(i *input) { i.s, i.orders = s, c.orders }), c.e, "Check", "Lies", "Fault", "Rests", "Plan")
		}
	}
	for name, orders := range map[string][]api.RollOrder{
		"no orders": nil, "an empty list": {}, "one": list(whole(1)), "the longest": list(order(5000000)), "ten": slices.Repeat(list(whole(5000000)), 10),
	} {
		expect(t, name, good(func(i *input) { i.orders = orders }), api.OK, "Check", "Lies")
	}
}

// P7.6, P7.7, P7.9: functions that find nothing.
func TestNothingFound(t *testing.T) {
	expect(t, "all is well", good(func(i *input) {}), api.ErrNone, "Fault")
	expect(t, "all is well", good(func(i *input) {}), api.OK, "Rests", "Plan")
	expect(t, "too much", good(func(i *input) { i.orders = list(order(6041)) }), api.OK, "Fault")
	expect(t, "too much", good(func(i *input) { i.orders = list(order(6041)) }), api.ErrState, "Rests", "Plan")
	expect(t, "maybe too much", good(func(i *input) { i.orders = list(order(6001)) }), api.OK, "Fault", "Rests")
	expect(t, "maybe too much", good(func(i *input) { i.orders = list(order(6001)) }), api.ErrState, "Plan")
	expect(t, "a splice", good(func(i *input) { i.orders = list(whole(5000)) }), api.OK, "Fault", "Rests")
	expect(t, "a splice", good(func(i *input) { i.orders = list(whole(5000)) }), api.ErrState, "Plan")
}

// P7.2: what is wrong with a board, before what is wrong with its length.
func TestNeedErrors(t *testing.T) {
	none, long := api.BoardStore{}, store(slices.Repeat(list(api.Ratio{Num: 1000, Den: 1000}), 5)...)
	for name, c := range map[string]struct {
		change func(i *input)
		e      api.Errno
	}{
		"no store":       {func(i *input) { i.store = none }, api.ErrArg},
		"a long store":   {func(i *input) { i.store = long }, api.ErrLong},
		"a wrong paper":  {func(i *input) { i.store.Papers[1].Weight = 0 }, api.ErrArg},
		"no flutes":      {func(i *input) { i.b = made() }, api.ErrForm},
		"no board":       {func(i *input) { i.b = api.BoardMake{} }, api.ErrForm},
		"three flutes":   {func(i *input) { i.b = made(0, 0, 0) }, api.ErrForm},
		"a paper less":   {func(i *input) { i.b.Papers = list(0, 1) }, api.ErrForm},
		"a paper more":   {func(i *input) { i.b.Papers = list(0, 1, 0, 1) }, api.ErrForm},
		"the flute 1":    {func(i *input) { i.b = made(1) }, api.ErrNone},
		"the flute -1":   {func(i *input) { i.b = made(-1) }, api.ErrNone},
		"the paper 2":    {func(i *input) { i.b.Papers[2] = 2 }, api.ErrNone},
		"a wrong liner":  {func(i *input) { i.b.Papers[2] = 1 }, api.ErrArg},
		"a wrong medium": {func(i *input) { i.b.Papers[1] = 0 }, api.ErrArg},
	} {
		expect(t, name, good(c.change), c.e, "Need")
		for _, long := range list(-1, 5000001) {
			i := good(c.change)
			i.long = long
			expect(t, name, i, c.e, "Need")
		}
	}
	for long, e := range map[int]api.Errno{
		-1: api.ErrRange, 5000001: api.ErrRange, math.MinInt: api.ErrRange, math.MaxInt: api.ErrRange, 0: api.OK, 1: api.OK, 5000000: api.OK,
	} {
		expect(t, "long", good(func(i *input) { i.long = long }), e, "Need")
	}
}

// P7.10: what is wrong with places that were seen.
func TestSeenErrors(t *testing.T) {
	for name, c := range map[string]struct {
		seen []api.RollSeen
		e    api.Errno
	}{
		"thirteen":             {slices.Repeat(list(at(0, 0, 9999)), 13), api.ErrFull},
		"full before range":    {slices.Repeat(list(at(0, -1, 9999)), 13), api.ErrFull},
		"full before none":     {slices.Repeat(list(at(9, 0, 9999)), 13), api.ErrFull},
		"full before state":    {slices.Repeat(list(at(0, 0, 0)), 13), api.ErrFull},
		"a place -1":           {list(at(0, -1, 9999)), api.ErrRange},
		"a place 70000001":     {list(at(0, 0, 70000001)), api.ErrRange},
		"High below Low":       {list(at(0, 2011, 2010)), api.ErrRange},
		"all numbers":          {list(at(0, math.MinInt, math.MaxInt)), api.ErrRange},
		"no numbers":           {list(at(0, math.MaxInt, math.MinInt)), api.ErrRange},
		"the last place":       {list(at(0, 0, 9999), at(1, 0, 9999), at(1, 2, 1)), api.ErrRange},
		"range before none":    {list(at(9, 0, 9999), at(0, 2, 1)), api.ErrRange},
		"range of no splice":   {list(at(9, 2, 1)), api.ErrRange},
		"range before state":   {list(at(0, 0, 0), at(0, 2, 1)), api.ErrRange},
		"the splice 2":         {list(at(2, 0, 9999)), api.ErrNone},
		"the splice -1":        {list(at(-1, 0, 9999)), api.ErrNone},
		"the greatest splice":  {list(at(math.MaxInt, 0, 9999)), api.ErrNone},
		"the least splice":     {list(at(math.MinInt, 0, 9999)), api.ErrNone},
		"the last splice":      {list(at(0, 0, 9999), at(1, 0, 9999), at(2, 0, 9999)), api.ErrNone},
		"none before state":    {list(at(0, 0, 0), at(2, 0, 9999)), api.ErrNone},
		"not so soon":          {list(at(0, 0, 1999)), api.ErrState},
		"not so late":          {list(at(1, 6041, 70000000)), api.ErrState},
		"not both":             {list(at(0, 2000, 2001), at(1, 6039, 6040)), api.ErrState},
		"not twice":            {list(at(0, 2000, 2010), at(0, 2011, 2040)), api.ErrState},
		"nothing":              {nil, api.OK},
		"an empty list":        {[]api.RollSeen{}, api.OK},
		"twelve":               {slices.Repeat(list(at(0, 0, 9999)), 12), api.OK},
		"the end":              {list(at(1, 6000, 6040)), api.OK},
		"any place":            {list(at(0, 0, 70000000), at(1, 0, 70000000)), api.OK},
		"the end, then before": {list(at(1, 6000, 6040), at(0, 2000, 2040)), api.OK},
	} {
		expect(t, name, good(func(i *input) { i.seen = c.seen }), c.e, "Labels")
	}
	expect(t, "no splices", good(func(i *input) { i.s = stand(1, 1, 0) }), api.ErrNone, "Labels")
	expect(t, "no splices, none seen", good(func(i *input) { i.s, i.seen = stand(1, 1, 0), nil }), api.OK, "Labels")
}

// R3: nil lists and empty ones are the same.
func TestEmpty(t *testing.T) {
	for _, orders := range list(nil, []api.RollOrder{}) {
		for _, rolls := range list(nil, []api.Span{}) {
			s := stand(3, 2, 100, rolls...)
			lasts, a := roll.Lasts(s)
			splices, b := roll.Splices(s)
			lies, c := roll.Lies(s, orders)
			rests, d := roll.Rests(s, orders)
			numbers, e := roll.Plan(s, orders)
			labels, f := roll.Labels(s, []api.RollSeen{}[:len(orders)])
			_, _, g := roll.Fault(s, orders)
			if lasts != to(0, 0) || len(splices)+len(lies)+len(rests)+len(numbers)+len(labels) > 0 || a+b+c+d+e+f != api.OK || g != api.ErrNone {
				t.Error(lasts, splices, lies, rests, numbers, labels, a, b, c, d, e, f, g)
			}
		}
	}
}

// spare returns a list with spare room, full the list with that room.
func spare[E any](list []E) []E { return append(make([]E, 0, 20), list...) }

func full[E any](list []E) []E { return list[:cap(list)] }

// spareInput returns valid arguments in which all lists have spare room, fullInput arguments with that room.
func spareInput() input {
	return good(func(i *input) {
		i.s.Rolls, i.other.Rolls, i.orders, i.seen = spare(i.s.Rolls), spare(i.other.Rolls), spare(i.orders), spare(i.seen)
		i.store.Papers, i.store.Flutes, i.b.Papers, i.b.Flutes = spare(i.store.Papers), spare(i.store.Flutes), spare(i.b.Papers), spare(i.b.Flutes)
	})
}

func fullInput(i input) input {
	i.s.Rolls, i.other.Rolls, i.orders, i.seen = full(i.s.Rolls), full(i.other.Rolls), full(i.orders), full(i.seen)
	i.store.Papers, i.store.Flutes, i.b.Papers, i.b.Flutes = full(i.store.Papers), full(i.store.Flutes), full(i.b.Papers), full(i.b.Flutes)
	return i
}

// P2, R4: no argument is changed, nor the spare room behind it; results are new memory, and equal for equal arguments.
func TestMemory(t *testing.T) {
	i, before := spareInput(), spareInput()
	three := stand(1, 1, 0, spare(list(to(3, 5), to(3, 3), to(9, 9)))...)
	for range 2 {
		for f, e := range errorsWith(t, i) {
			if e != api.OK && f != "Fault" {
				t.Error(f, e)
			}
		}
		need, _ := roll.Need(i.store, i.b, i.long)
		splices, _ := roll.Splices(i.s)
		rests, _ := roll.Rests(i.s, i.orders)
		numbers, _ := roll.Plan(i.s, i.orders)
		labels, _ := roll.Labels(i.s, i.seen)
		unseen, _ := roll.Labels(i.s, nil)
		unused, _ := roll.Rests(i.s, nil)
		lies, _ := roll.Lies(three, list(order(4), order(4)))
		got := list[any](need, splices, rests, numbers, labels, unseen, unused, lies)
		want := list[any](
			list(1001, 1502, 1001), list(to(2000, 2040), to(6000, 6040)), list(to(100, 100), to(850, 910)), list(0, 1),
			list(to(3115, 3119), to(6100, 6100)), list(to(3100, 3160), to(6100, 6100)), list(to(3100, 3160), to(6100, 6100)), list(list(0, 1), list(1)),
		)
		if !reflect.DeepEqual(got, want) {
			t.Error(got)
		}
		// What is written over here must be seen nowhere else, neither in arguments nor in other parts of results.
		clear(full(lies[0]))
		if !slices.Equal(lies[1], list(1)) {
			t.Error(lies)
		}
		clear(full(lies[1]))
		clear(full(lies))
		clear(full(need))
		clear(full(numbers))
		for _, spans := range list(splices, rests, labels, unseen, unused) {
			clear(full(spans))
		}
		if !reflect.DeepEqual(fullInput(i), fullInput(before)) {
			t.Error(i)
		}
	}
}

// P1: with the least and the greatest numbers, and none at all, each function ends.
func TestAnyArguments(t *testing.T) {
	numbers := list(math.MinInt, -1, 0, 1, 3, math.MaxInt)
	for _, a := range numbers {
		for _, b := range numbers {
			for _, s := range list(stand(a, b, 0, to(1, 3)), stand(1, 1, a, to(b, b)), stand(1, 1, 0, to(a, b), to(b, a)), stand(2, 1, 0, to(1, 3), to(3, 3))) {
				errorsWith(t, input{
					s: s, other: stand(b, a, 0, to(a, b)), orders: list(order(a), whole(b)), seen: list(at(a, 0, b), at(0, a, b)),
					store: store(api.Ratio{Num: a, Den: b}), b: made(a, b), long: a,
				})
				errorsWith(t, input{s: s, other: s, orders: list(whole(1), order(b)), seen: list(at(a, 0, 3), at(1, b, 3)), store: store(api.Ratio{Num: 1000, Den: 1000}), b: made(b), long: a})
			}
		}
	}
}
