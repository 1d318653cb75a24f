package crush_test

import (
	"math"
	"reflect"
	"slices"
	"testing"

	"testliner/api"
	"testliner/crush"
)

// input is an argument for all functions.
type input struct {
	rule        api.CrushRule
	readings    []int
	off, spread int
	box         api.CrushBox
	boxes       []api.CrushLoad
	keep        []api.CrushStep
	days        int
}

// good returns arguments that are valid for all functions, good but for what change does.
func good(change func(x *input)) input {
	x := input{
		rule: chapterRule(), readings: n(120, 110, 90), off: 5, spread: 10,
		box:   api.CrushBox{Edge: to(5000, 6000), Caliper: to(4000, 4200), Around: 1600, Rule: 587},
		boxes: []api.CrushLoad{sure(100, 50), sure(10, 200)},
		keep:  chapterTable(), days: 40,
	}
	change(&x)
	return x
}

// errorsWith returns the errors of all functions, and checks that all else that they return is zero if there is one. High has the first box.
func errorsWith(t *testing.T, x input) map[string]api.Errno {
	t.Helper()
	got := map[string]api.Errno{}
	add := func(name string, e api.Errno, results ...any) {
		got[name] = e
		for _, y := range results {
			v := reflect.ValueOf(y)
			if e != api.OK && !v.IsZero() && !(v.Kind() == reflect.Slice && v.Len() == 0) {
				t.Errorf("%s: %d with %v", name, e, y)
			}
		}
	}
	add("Rule", crush.Rule(x.rule, x.readings, x.off))
	state, e := crush.Decide(x.rule, x.readings, x.off)
	add("Decide", e, state)
	pass, fail, e := crush.Need(x.rule, x.readings, x.off)
	add("Need", e, pass, fail)
	odd, e := crush.Odd(x.readings, x.off, x.spread)
	add("Odd", e, odd)
	strength, e := crush.Strength(x.box)
	add("Strength", e, strength)
	loads, e := crush.Loads(x.boxes)
	add("Loads", e, loads)
	day, lowest, e := crush.Fall(x.boxes, x.keep, x.days)
	add("Fall", e, day, lowest)
	if len(x.boxes) > 0 {
		high, e := crush.High(x.boxes[0], x.keep, x.days)
		add("High", e, high)
	}
	order, e := crush.Order(x.boxes, x.keep, x.days)
	add("Order", e, order)
	most, e := crush.Most(x.boxes, x.keep, x.days)
	add("Most", e, most)
	return got
}

// expect checks that some functions have an error.
func expect(t *testing.T, name string, x input, e api.Errno, functions ...string) {
	t.Helper()
	got := errorsWith(t, x)
	for _, f := range functions {
		if got[f] != e {
			t.Errorf("%s: %s: %d, want %d", name, f, got[f], e)
		}
	}
}

// P3.1: what is wrong with a rule, and the limits that can just be reached; Decide and Need have the same errors, all before those of what comes later.
func TestRuleErrors(t *testing.T) {
	all := []string{"Rule", "Decide", "Need"}
	for i, c := range []struct {
		rule api.CrushRule
		e    api.Errno
	}{
		{api.CrushRule{}, api.ErrArg},
		{api.CrushRule{Tests: 1}, api.OK},
		{api.CrushRule{Tests: 20}, api.OK},
		{api.CrushRule{Tests: 21}, api.ErrArg},
		{api.CrushRule{Tests: -1}, api.ErrArg},
		{api.CrushRule{Tests: -1, Bad: -1}, api.ErrArg},
		{api.CrushRule{Tests: math.MaxInt, Bad: 1}, api.ErrArg},
		{api.CrushRule{Tests: math.MinInt}, api.ErrArg},
		{api.CrushRule{Tests: 3, Mean: -1}, api.ErrArg},
		{api.CrushRule{Tests: 3, Mean: 100000}, api.OK},
		{api.CrushRule{Tests: 3, Mean: 100001}, api.ErrArg},
		{api.CrushRule{Tests: 3, Mean: math.MaxInt}, api.ErrArg},
		{api.CrushRule{Tests: 3, Low: -1}, api.ErrArg},
		{api.CrushRule{Tests: 3, Low: 100000}, api.OK},
		{api.CrushRule{Tests: 3, Low: 100001}, api.ErrArg},
		{api.CrushRule{Tests: 3, Bad: -1}, api.ErrArg},
		{api.CrushRule{Tests: 3, Bad: 3}, api.OK},
		{api.CrushRule{Tests: 3, Bad: 4}, api.ErrArg},
		{api.CrushRule{Tests: 20, Bad: 20}, api.OK},
		{api.CrushRule{Tests: 20, Bad: 21}, api.ErrArg},
	} {
		if c.e == api.OK {
			expect(t, "rule", good(func(x *input) { x.rule, x.readings = c.rule, nil }), api.OK, all...)
			continue
		}
		x := good(func(x *input) { x.rule, x.off, x.readings = c.rule, -1, slices.Repeat(n(-1), 30) })
		if crush.Rule(x.rule, x.readings, x.off) != api.ErrArg {
			t.Error(i, c.rule)
		}
		expect(t, "rule", x, api.ErrArg, all...)
	}
	expect(t, "off before long", good(func(x *input) { x.off, x.readings = -1, slices.Repeat(n(-1), 6) }), api.ErrRange, all...)
	expect(t, "long before form", good(func(x *input) { x.readings = slices.Repeat(n(-1), 6) }), api.ErrLong, all...)
	expect(t, "so many as tests", good(func(x *input) { x.readings = slices.Repeat(n(-1), 5) }), api.ErrForm, all...)
	expect(t, "all tests", good(func(x *input) { x.readings = slices.Repeat(n(1), 5) }), api.OK, all...)
	expect(t, "no tests", good(func(x *input) { x.readings = nil }), api.OK, all...)
}

// P3.1, P3.4: what is wrong with a gauge, with readings, and with a spread.
func TestReadingErrors(t *testing.T) {
	all := []string{"Rule", "Decide", "Need", "Odd"}
	for off, e := range map[int]api.Errno{0: api.OK, 1000: api.OK, -1: api.ErrRange, 1001: api.ErrRange, math.MinInt: api.ErrRange, math.MaxInt: api.ErrRange} {
		expect(t, "off", good(func(x *input) { x.off = off }), e, all...)
		if e != api.OK {
			expect(t, "off before form", good(func(x *input) { x.off, x.readings = off, n(-1) }), e, all...)
		}
	}
	for reading, e := range map[int]api.Errno{0: api.OK, 100000: api.OK, -1: api.ErrForm, 100001: api.ErrForm, math.MinInt: api.ErrForm, math.MaxInt: api.ErrForm} {
		expect(t, "first reading", good(func(x *input) { x.readings = n(reading, 5) }), e, all...)
		expect(t, "last reading", good(func(x *input) { x.readings = n(5, 5, reading) }), e, all...)
	}
	for spread, e := range map[int]api.Errno{0: api.OK, 100000: api.OK, -1: api.ErrRange, 100001: api.ErrRange, math.MinInt: api.ErrRange, math.MaxInt: api.ErrRange} {
		expect(t, "spread", good(func(x *input) { x.spread = spread }), e, "Odd")
		if e != api.OK {
			expect(t, "spread before form", good(func(x *input) { x.spread, x.readings = spread, n(-1) }), e, "Odd")
		}
	}
	expect(t, "long before off and spread", good(func(x *input) { x.readings, x.off, x.spread = slices.Repeat(n(-1), 21), -1, -1 }), api.ErrLong, "Odd")
	expect(t, "so many as there may be", good(func(x *input) { x.readings = make([]int, 20) }), api.OK, "Odd")
	// The rule has nothing to do with Odd.
	expect(t, "more than tests", good(func(x *input) { x.readings = make([]int, 6) }), api.OK, "Odd")
}

// P3.5: what is wrong with a box of which the strength is asked.
func TestStrengthErrors(t *testing.T) {
	for _, c := range []struct {
		field      func(b *api.CrushBox, s api.Span)
		low, high  int
		onlyNumber bool
	}{
		{func(b *api.CrushBox, s api.Span) { b.Edge = s }, 0, 100000, false},
		{func(b *api.CrushBox, s api.Span) { b.Caliper = s }, 1, 10000, false},
		{func(b *api.CrushBox, s api.Span) { b.Around = s.Low }, 1, 20000, true},
		{func(b *api.CrushBox, s api.Span) { b.Rule = s.Low }, 1, 1000, true},
	} {
		for s, e := range map[api.Span]api.Errno{
			at(c.low): api.OK, at(c.high): api.OK, at(c.low - 1): api.ErrArg, at(c.high + 1): api.ErrArg,
			at(math.MinInt): api.ErrArg, at(math.MaxInt): api.ErrArg,
		} {
			expect(t, "number", good(func(x *input) { c.field(&x.box, s) }), e, "Strength")
		}
		if c.onlyNumber {
			continue
		}
		for s, e := range map[api.Span]api.Errno{
			to(c.low, c.high): api.OK, to(c.low-1, c.high): api.ErrArg, to(c.low, c.high+1): api.ErrArg,
			to(8, 7): api.ErrArg, to(math.MaxInt, math.MinInt): api.ErrArg, to(math.MinInt, math.MaxInt): api.ErrArg,
		} {
			expect(t, "span", good(func(x *input) { c.field(&x.box, s) }), e, "Strength")
		}
	}
}

// P3.6 to P3.9: what is wrong with boxes; all this comes before the errors of the table and the days.
func TestBoxErrors(t *testing.T) {
	all := []string{"Loads", "Fall", "High", "Order", "Most"}
	fields := map[int]func(b *api.CrushLoad) *api.Span{
		20000000: func(b *api.CrushLoad) *api.Span { return &b.Strength },
		100000:   func(b *api.CrushLoad) *api.Span { return &b.Weight },
	}
	for high, field := range fields {
		for _, s := range []api.Span{to(-1, 5), to(5, high+1), at(high + 1), at(-1), to(8, 7), to(math.MaxInt, math.MinInt), to(math.MinInt, math.MaxInt)} {
			bad := func(x *input) { *field(&x.boxes[0]), x.keep, x.days = s, nil, -1 }
			expect(t, "box", good(bad), api.ErrArg, all...)
			last := func(x *input) { *field(&x.boxes[1]), x.keep, x.days = s, nil, -1 }
			expect(t, "last box", good(last), api.ErrArg, "Loads", "Fall", "Order", "Most")
		}
		for _, s := range []api.Span{to(0, high), at(0), at(high)} {
			expect(t, "box", good(func(x *input) { *field(&x.boxes[0]) = s }), api.OK, "Loads", "High", "Most")
		}
	}
	many := func(boxes int) input {
		return good(func(x *input) { x.boxes, x.keep, x.days = slices.Repeat([]api.CrushLoad{sure(-1, -1)}, boxes), nil, -1 })
	}
	expect(t, "51", many(51), api.ErrLong, "Loads", "Fall", "Order", "Most")
	expect(t, "50", many(50), api.ErrArg, "Loads", "Fall")
	expect(t, "11", many(11), api.ErrLong, "Order", "Most")
	expect(t, "10", many(10), api.ErrArg, "Order", "Most")
	expect(t, "50 good", good(func(x *input) { x.boxes = make([]api.CrushLoad, 50) }), api.ErrNone, "Fall")
	expect(t, "10 good", good(func(x *input) { x.boxes = make([]api.CrushLoad, 10) }), api.OK, "Order", "Most")
}

// P3.7 to P3.9: what is wrong with a table, and with days, in this order, before what there is not.
func TestTableErrors(t *testing.T) {
	all := []string{"Fall", "High", "Order", "Most"}
	step := func(day, keep int) api.CrushStep { return api.CrushStep{Day: day, Keep: keep} }
	eleven := make([]api.CrushStep, 11)
	for i := range eleven {
		eleven[i] = step(i, 1000-i)
	}
	for name, keep := range map[string][]api.CrushStep{
		"nil":            nil,
		"empty":          {},
		"eleven":         eleven,
		"first day 1":    {step(1, 1000)},
		"first day -1":   {step(-1, 1000)},
		"same day":       {step(0, 1000), step(0, 900)},
		"day before":     {step(0, 1000), step(5, 900), step(4, 800)},
		"same later day": {step(0, 1000), step(5, 900), step(5, 800)},
		"day 10001":      {step(0, 1000), step(10001, 900)},
		"greatest day":   {step(0, 1000), step(math.MaxInt, 900)},
		"day after it":   {step(0, 1000), step(math.MaxInt, 900), step(math.MinInt, 800)},
		"keeps more":     {step(0, 900), step(5, 901)},
		"keeps more yet": {step(0, 1000), step(5, 500), step(6, 501)},
		"keeps 1001":     {step(0, 1001)},
		"keeps -1":       {step(0, -1)},
		"keeps -1 later": {step(0, 1000), step(5, -1)},
		"keeps greatest": {step(0, math.MaxInt)},
	} {
		expect(t, name, good(func(x *input) { x.keep, x.days = keep, -1 }), api.ErrForm, all...)
	}
	for name, keep := range map[string][]api.CrushStep{
		"ten":         eleven[:10],
		"the ends":    {step(0, 1000), step(10000, 0)},
		"keeps 0":     {step(0, 0)},
		"keeps alike": {step(0, 500), step(1, 500), step(2, 500)},
	} {
		expect(t, name, good(func(x *input) { x.keep = keep }), api.OK, "High", "Most")
		for _, days := range n(-1, 10001, math.MinInt, math.MaxInt) {
			expect(t, name, good(func(x *input) { x.keep, x.days = keep, days }), api.ErrRange, all...)
		}
		for _, days := range n(0, 10000) {
			expect(t, name, good(func(x *input) { x.keep, x.days = keep, days }), api.OK, "High", "Most")
			expect(t, name, good(func(x *input) { x.keep, x.days, x.boxes = keep, days, nil }), api.ErrNone, "Fall")
			expect(t, name, good(func(x *input) { x.keep, x.days, x.boxes = keep, days, nil }), api.OK, "Order", "Most")
		}
	}
	expect(t, "no order", good(func(x *input) { x.boxes = []api.CrushLoad{sure(0, 1), sure(0, 1)} }), api.ErrState, "Order")
}

// P2, R4: no argument is changed, nor the spare room behind it; results are new memory, and equal for equal arguments.
func TestMemory(t *testing.T) {
	spare := func() input {
		return good(func(x *input) {
			x.readings = append(make([]int, 0, 20), 120, 300, 90)
			x.boxes = append(make([]api.CrushLoad, 0, 20), sure(100, 50), sure(200, 100), sure(40, 60))
			x.keep = append(make([]api.CrushStep, 0, 20), flat()...)
		})
	}
	x, before := spare(), spare()
	for range 2 {
		for f, e := range errorsWith(t, x) {
			if e != api.OK && f != "Fall" {
				t.Error(f, e)
			}
		}
		odd, _ := crush.Odd(x.readings, x.off, x.spread)
		loads, _ := crush.Loads(x.boxes)
		order, _ := crush.Order(x.boxes, x.keep, x.days)
		most, _ := crush.Most(x.boxes, x.keep, x.days)
		if !slices.Equal(odd, n(0, 1)) || !slices.Equal(loads, []api.Span{at(160), at(60), at(0)}) || !slices.Equal(order, n(1, 0, 2)) || !slices.Equal(most, n(0, 1, 2)) {
			t.Error(odd, loads, order, most)
		}
		// What is written over here must be seen nowhere else.
		for _, l := range [][]int{odd, order, most} {
			for i := range l[:cap(l)] {
				l[:cap(l)][i] = -5
			}
		}
		clear(loads)
		if !slices.Equal(x.readings[:20], before.readings[:20]) || !slices.Equal(x.boxes[:20], before.boxes[:20]) || !slices.Equal(x.keep[:20], before.keep[:20]) {
			t.Error(x)
		}
	}
}

// P1: with the least and the greatest numbers, and none at all, each function ends.
func TestAnyArguments(t *testing.T) {
	for _, a := range n(math.MinInt, -1, 0, 1, math.MaxInt) {
		for _, b := range n(math.MinInt, -1, 0, 1, math.MaxInt) {
			errorsWith(t, input{
				rule: api.CrushRule{Tests: a, Mean: b, Low: a, Bad: b}, readings: n(a, b), off: a, spread: b,
				box:   api.CrushBox{Edge: to(a, b), Caliper: to(b, a), Around: a, Rule: b},
				boxes: []api.CrushLoad{box(a, b, b, a), box(b, a, a, b)},
				keep:  []api.CrushStep{{Day: a, Keep: b}, {Day: b, Keep: a}}, days: a,
			})
		}
	}
}
