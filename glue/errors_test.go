package glue_test

import (
	"math"
	"reflect"
	"slices"
	"testing"

	"testliner/api"
	"testliner/glue"
)

// input is an argument for all functions.
type input struct {
	p            api.GluePlan
	state, other []api.GlueCause
	states       [][]api.GlueCause
	box, boxes   int
	froms        []int
	looks        []api.GlueLook
	r            api.GlueRule
	room         api.GlueRoom
	rooms        []api.GlueRoom
	pressed      []int
}

// good returns arguments that are valid for all functions, good but for what change does.
func good(change func(i *input)) input {
	warm := room(to(0, 10), to(20, 40))
	i := input{
		p: chapterPlan(), state: list(cause(0, api.GlueBlocked, 3)), other: list(cause(0, api.GlueLate, 0), cause(1, api.GlueDrips, 1000)),
		states: list(nil, list(cause(0, api.GlueEvery, 0)), list(cause(0, api.GlueEvery, 1))), box: 5, boxes: 3,
		froms: list(0, 4), looks: list(look(0, 0, 1, false), look(4, 1, 0, false)),
		r: rule(60, 10, 5), room: warm, rooms: list(warm, warm), pressed: list(59, 71),
	}
	change(&i)
	return i
}

// errorsWith returns the errors of all functions, and checks that all else that they return is zero if there is one.
func errorsWith(t *testing.T, i input) map[string]api.Errno {
	t.Helper()
	got := map[string]api.Errno{}
	add := func(name string, e api.Errno, results ...any) {
		got[name] = e
		for _, y := range results {
			v := reflect.ValueOf(y)
			if e != api.OK && !v.IsZero() && !(v.Kind() == reflect.Slice && v.Len() == 0) {
				t.Errorf("%s: %d with %v", name, e, y)
			}
		}
	}
	add("Check", glue.Check(i.p))
	add("State", glue.State(i.p, i.state))
	box, e := glue.Box(i.p, i.state, i.box)
	add("Box", e, box)
	many, first, e := glue.Explain(i.p, i.froms, i.looks)
	add("Explain", e, many, first)
	surely, e := glue.Surely(i.p, i.froms, i.looks)
	add("Surely", e, surely)
	at, most, e := glue.Look(i.p, i.froms, i.looks, i.boxes)
	add("Look", e, at, most)
	at, e = glue.Apart(i.p, i.state, i.other, i.boxes)
	add("Apart", e, at)
	groups, e := glue.Alike(i.p, i.states, i.boxes)
	add("Alike", e, groups)
	times, e := glue.Press(i.r, i.room)
	add("Press", e, times)
	surely, possibly, e := glue.Open(i.r, i.rooms, i.pressed)
	add("Open", e, surely, possibly)
	return got
}

// expect checks that some functions have an error.
func expect(t *testing.T, name string, i input, e api.Errno, functions ...string) {
	t.Helper()
	got := errorsWith(t, i)
	for _, f := range functions {
		if got[f] != e {
			t.Errorf("%s: %s: %d, want %d", name, f, got[f], e)
		}
	}
}

// P8.1: what is wrong with a plan, before all else of the functions that have one.
func TestPlanErrors(t *testing.T) {
	for name, c := range map[string]struct {
		p api.GluePlan
		e api.Errno
	}{
		"nothing":               {api.GluePlan{}, api.ErrRange},
		"no steps":              {plan(0, 0), api.ErrRange},
		"-1 steps":              {plan(-1, 0), api.ErrRange},
		"17 steps":              {plan(17, 0), api.ErrRange},
		"the most steps":        {plan(math.MaxInt, 0), api.ErrRange},
		"the least steps":       {plan(math.MinInt, 0), api.ErrRange},
		"64 steps":              {plan(64, 0), api.ErrRange},
		"range before long":     {plan(0, slices.Repeat(list(-1), 7)...), api.ErrRange},
		"range before none":     {plan(17), api.ErrRange},
		"range before argument": {plan(0, -1), api.ErrRange},
		"seven nozzles":         {plan(1, make([]int, 7)...), api.ErrLong},
		"long before argument":  {plan(1, slices.Repeat(list(2), 7)...), api.ErrLong},
		"no nozzles":            {plan(1), api.ErrNone},
		"an empty list":         {plan(1, []int{}...), api.ErrNone},
		"-1":                    {plan(1, -1), api.ErrArg},
		"a step too much":       {plan(6, 64), api.ErrArg},
		"a step too much of 1":  {plan(1, 2), api.ErrArg},
		"a step too much of 16": {plan(16, 65536), api.ErrArg},
		"the greatest number":   {plan(16, math.MaxInt), api.ErrArg},
		"the least number":      {plan(16, math.MinInt), api.ErrArg},
		"the last nozzle":       {plan(3, 0, 7, 8), api.ErrArg},
		"the first nozzle":      {plan(3, 8, 7, 0), api.ErrArg},
		"one nozzle":            {plan(1, 0), api.OK},
		"six nozzles":           {plan(1, 0, 1, 0, 1, 1, 0), api.OK},
		"all steps":             {plan(6, 63), api.OK},
		"as much as can be":     {greatestPlan(), api.OK},
		"the chapter's plan":    {chapterPlan(), api.OK},
	} {
		expect(t, name, good(func(i *input) { i.p = c.p }), c.e, "Check")
		if c.e == api.OK {
			continue
		}
		bad := slices.Repeat(list(cause(-1, 0, -1)), 3)
		worse := good(func(i *input) {
			i.p, i.state, i.other, i.states = c.p, bad, bad, make([][]api.GlueCause, 31)
			i.box, i.boxes, i.froms, i.looks = -1, 0, make([]int, 6), make([]api.GlueLook, 41)
		})
		for _, i := range list(worse, good(func(i *input) { i.p = c.p })) {
			expect(t, name, i, c.e, "Check", "State", "Box", "Explain", "Surely", "Look", "Apart", "Alike")
		}
		expect(t, name, good(func(i *input) { i.p, i.state, i.froms, i.looks, i.states = c.p, nil, nil, nil, nil }), c.e, "State", "Box", "Explain", "Surely", "Look", "Apart", "Alike")
	}
}

// stateErrors are states of the chapter's plan, and what is wrong with them.
func stateErrors() map[string]struct {
	state []api.GlueCause
	e     api.Errno
} {
	fine, late, bad := cause(0, api.GlueBlocked, 0), cause(1, api.GlueLate, 7), cause(0, 9, 0)
	return map[string]struct {
		state []api.GlueCause
		e     api.Errno
	}{
		"three causes":          {list(fine, late, cause(1, api.GlueDrips, 0)), api.ErrFull},
		"full before form":      {list(bad, bad, bad), api.ErrFull},
		"the nozzle 2":          {list(cause(2, api.GlueBlocked, 0)), api.ErrForm},
		"the nozzle -1":         {list(cause(-1, api.GlueBlocked, 0)), api.ErrForm},
		"the greatest nozzle":   {list(cause(math.MaxInt, api.GlueBlocked, 0)), api.ErrForm},
		"the least nozzle":      {list(cause(math.MinInt, api.GlueBlocked, 0)), api.ErrForm},
		"the kind 0":            {list(cause(0, 0, 0)), api.ErrForm},
		"the kind 5":            {list(cause(0, 5, 0)), api.ErrForm},
		"the kind -1":           {list(cause(0, -1, 0)), api.ErrForm},
		"the greatest kind":     {list(cause(0, math.MaxInt, 0)), api.ErrForm},
		"the least kind":        {list(cause(0, math.MinInt, 0)), api.ErrForm},
		"the box -1":            {list(cause(0, api.GlueEvery, -1)), api.ErrForm},
		"the box 1001":          {list(cause(0, api.GlueEvery, 1001)), api.ErrForm},
		"the greatest box":      {list(cause(0, api.GlueEvery, math.MaxInt)), api.ErrForm},
		"the last cause":        {list(fine, cause(1, 9, 0)), api.ErrForm},
		"the first cause":       {list(bad, late), api.ErrForm},
		"form before twice":     {list(late, bad), api.ErrForm},
		"the second has form":   {list(cause(1, 9, 0), fine), api.ErrForm},
		"a nozzle twice":        {list(late, late), api.ErrTwice},
		"the nozzle 0 twice":    {list(fine, cause(0, api.GlueDrips, 3)), api.ErrTwice},
		"kinds ascend":          {list(cause(1, api.GlueBlocked, 0), cause(1, api.GlueDrips, 0)), api.ErrTwice},
		"froms ascend":          {list(cause(1, api.GlueBlocked, 0), cause(1, api.GlueBlocked, 1)), api.ErrTwice},
		"nozzles descend":       {list(late, fine), api.ErrTwice},
		"no causes":             {nil, api.OK},
		"an empty list":         {[]api.GlueCause{}, api.OK},
		"one cause":             {list(late), api.OK},
		"two causes":            {list(fine, late), api.OK},
		"the first box":         {list(cause(0, api.GlueDrips, 0)), api.OK},
		"the last box":          {list(cause(1, api.GlueEvery, 1000)), api.OK},
		"the same kind, twice":  {list(fine, cause(1, api.GlueBlocked, 0)), api.OK},
		"a later From, earlier": {list(cause(0, api.GlueEvery, 9), cause(1, api.GlueBlocked, 8)), api.OK},
	}
}

// P8.1, P8.2, P8.5: what is wrong with a state, before a box, and boxes.
func TestStateErrors(t *testing.T) {
	for name, c := range stateErrors() {
		expect(t, name, good(func(i *input) { i.state = c.state }), c.e, "State", "Box")
		expect(t, name, good(func(i *input) { i.states = list(nil, c.state) }), c.e, "Alike")
		box, boxes := c.e, c.e
		if c.e == api.OK {
			box, boxes = api.ErrState, api.ErrArg
		}
		expect(t, name, good(func(i *input) { i.state, i.box = c.state, -1 }), box, "Box")
		expect(t, name, good(func(i *input) { i.state, i.other, i.boxes = c.state, nil, 0 }), boxes, "Apart")
		expect(t, name, good(func(i *input) { i.state, i.other, i.boxes = nil, c.state, 21 }), boxes, "Apart")
		expect(t, name, good(func(i *input) { i.states, i.boxes = list(c.state), 0 }), boxes, "Alike")
		expect(t, name, good(func(i *input) { i.states = append(make([][]api.GlueCause, 30), c.state) }), api.ErrLong, "Alike")
		// The errors of the first state that has one come first.
		for second, d := range stateErrors() {
			both := c.e
			if both == api.OK {
				both = d.e
			}
			if both != api.OK {
				i := good(func(i *input) { i.state, i.other, i.states = c.state, d.state, list(nil, c.state, nil, d.state) })
				expect(t, name+", "+second, i, both, "Apart", "Alike")
			}
		}
	}
}

// P8.2: the boxes whose glue can be asked for.
func TestBoxErrors(t *testing.T) {
	for box, e := range map[int]api.Errno{
		-1: api.ErrState, 1001: api.ErrState, math.MinInt: api.ErrState, math.MaxInt: api.ErrState, 0: api.OK, 20: api.OK, 1000: api.OK,
	} {
		expect(t, "box", good(func(i *input) { i.box = box }), e, "Box")
	}
}

// P8.4, P8.5: how many boxes there can be to look at, before what is not found in them.
func TestBoxesErrors(t *testing.T) {
	for boxes, e := range map[int]api.Errno{
		-1: api.ErrArg, 0: api.ErrArg, 21: api.ErrArg, math.MinInt: api.ErrArg, math.MaxInt: api.ErrArg, 1: api.OK, 20: api.OK,
	} {
		expect(t, "boxes", good(func(i *input) { i.boxes = boxes }), e, "Look", "Apart", "Alike")
		none := e
		if e == api.OK {
			none = api.ErrNone
		}
		alike := good(func(i *input) { i.boxes, i.froms, i.looks, i.other = boxes, nil, nil, i.state })
		expect(t, "boxes", alike, none, "Look", "Apart")
		expect(t, "boxes", good(func(i *input) { i.boxes, i.states = boxes, nil }), e, "Alike")
		expect(t, "boxes", good(func(i *input) { i.boxes, i.states = boxes, make([][]api.GlueCause, 30) }), e, "Alike")
	}
}

// P8.3: what is wrong with froms and looks, before looks that nothing explains, and before boxes.
func TestLookErrors(t *testing.T) {
	fine, never := look(0, 0, 1, true), look(0, 0, 0, true)
	for name, c := range map[string]struct {
		froms []int
		looks []api.GlueLook
		e     api.Errno
	}{
		"six froms":            {list(0, 1, 2, 3, 4, 5), nil, api.ErrLong},
		"41 looks":             {nil, slices.Repeat(list(fine), 41), api.ErrLong},
		"long before form":     {make([]int, 6), nil, api.ErrLong},
		"looks before form":    {list(-1), slices.Repeat(list(fine), 41), api.ErrLong},
		"long before twice":    {nil, slices.Repeat(list(look(-1, 0, 0, true)), 41), api.ErrLong},
		"froms before twice":   {make([]int, 6), list(look(-1, 0, 0, true)), api.ErrLong},
		"the from -1":          {list(-1), nil, api.ErrForm},
		"the from 1001":        {list(1001), nil, api.ErrForm},
		"the greatest from":    {list(math.MaxInt), nil, api.ErrForm},
		"the least from":       {list(math.MinInt, 0), nil, api.ErrForm},
		"the last from":        {list(0, 1, 1001), nil, api.ErrForm},
		"froms alike":          {list(3, 3), nil, api.ErrForm},
		"froms that descend":   {list(4, 3), nil, api.ErrForm},
		"the last two alike":   {list(0, 1, 2, 3, 3), nil, api.ErrForm},
		"the first two alike":  {list(0, 0, 2, 3, 4), nil, api.ErrForm},
		"up and down":          {list(0, 7, 2), nil, api.ErrForm},
		"form before twice":    {list(3, 3), list(look(0, 2, 0, true)), api.ErrForm},
		"form before state":    {list(-1), list(never), api.ErrForm},
		"the box -1":           {nil, list(look(-1, 0, 1, true)), api.ErrTwice},
		"the box 1001":         {nil, list(look(1001, 0, 1, true)), api.ErrTwice},
		"the greatest box":     {nil, list(look(math.MaxInt, 0, 1, true)), api.ErrTwice},
		"the nozzle -1":        {nil, list(look(0, -1, 1, true)), api.ErrTwice},
		"the nozzle 2":         {nil, list(look(0, 2, 1, true)), api.ErrTwice},
		"the greatest nozzle":  {nil, list(look(0, math.MaxInt, 1, true)), api.ErrTwice},
		"the step -1":          {nil, list(look(0, 0, -1, true)), api.ErrTwice},
		"the step 6":           {nil, list(look(0, 0, 6, false)), api.ErrTwice},
		"the greatest step":    {nil, list(look(0, 0, math.MaxInt, false)), api.ErrTwice},
		"the least step":       {nil, list(look(0, 0, math.MinInt, false)), api.ErrTwice},
		"the last look":        {nil, list(fine, fine, look(0, 0, 6, false)), api.ErrTwice},
		"the first look":       {nil, list(look(0, 0, 6, false), fine), api.ErrTwice},
		"twice before state":   {list(0), list(never, look(0, 2, 0, true)), api.ErrTwice},
		"never":                {list(0), list(never), api.ErrState},
		"never, after others":  {list(0), list(fine, never), api.ErrState},
		"both":                 {list(0), list(fine, look(0, 0, 1, false)), api.ErrState},
		"no froms":             {nil, list(look(0, 0, 1, false)), api.ErrState},
		"before all froms":     {list(5, 6), list(look(4, 0, 1, false)), api.ErrState},
		"too many nozzles":     {nil, list(look(0, 0, 1, false), look(0, 1, 1, false)), api.ErrState},
		"nothing":              {nil, nil, api.OK},
		"empty lists":          {[]int{}, []api.GlueLook{}, api.OK},
		"five froms":           {list(0, 1, 2, 3, 1000), nil, api.OK},
		"40 looks":             {nil, slices.Repeat(list(fine), 40), api.OK},
		"the last box":         {list(1000), list(look(1000, 1, 5, true)), api.OK},
		"as the chapter's one": {list(0), list(look(0, 0, 1, false)), api.OK},
	} {
		i := good(func(i *input) { i.froms, i.looks = c.froms, c.looks })
		expect(t, name, i, c.e, "Explain", "Surely")
		i.boxes = 0
		want := c.e
		if c.e == api.OK {
			want = api.ErrArg
		}
		expect(t, name, i, want, "Look")
	}
}

// ruleErrors are rules, and what is wrong with them.
func ruleErrors() map[api.GlueRule]api.Errno {
	return map[api.GlueRule]api.Errno{
		{}:                      api.ErrArg,
		rule(0, 0, 0):           api.ErrArg,
		rule(-1, 0, 0):          api.ErrArg,
		rule(601, 0, 0):         api.ErrArg,
		rule(math.MaxInt, 0, 0): api.ErrArg,
		rule(math.MinInt, 0, 0): api.ErrArg,
		rule(1, -1, 0):          api.ErrArg,
		rule(1, 21, 0):          api.ErrArg,
		rule(1, math.MinInt, 0): api.ErrArg,
		rule(1, math.MaxInt, 0): api.ErrArg,
		rule(1, 0, -1):          api.ErrArg,
		rule(1, 0, 21):          api.ErrArg,
		rule(1, 0, math.MinInt): api.ErrArg,
		rule(1, 0, math.MaxInt): api.ErrArg,
		rule(1, 0, 0):           api.OK,
		rule(600, 20, 20):       api.OK,
		rule(60, 10, 5):         api.OK,
	}
}

// roomErrors are rooms, and what is wrong with them.
func roomErrors() map[api.GlueRoom]api.Errno {
	all := to(math.MinInt, math.MaxInt)
	return map[api.GlueRoom]api.Errno{
		room(to(-1, 0), to(0, 0)):      api.ErrRange,
		room(to(0, 31), to(0, 0)):      api.ErrRange,
		room(to(31, 31), to(0, 0)):     api.ErrRange,
		room(to(-1, -1), to(0, 0)):     api.ErrRange,
		room(to(1, 0), to(0, 0)):       api.ErrRange,
		room(all, to(0, 0)):            api.ErrRange,
		room(to(0, 0), to(-1, 0)):      api.ErrRange,
		room(to(0, 0), to(0, 101)):     api.ErrRange,
		room(to(0, 0), to(101, 101)):   api.ErrRange,
		room(to(0, 0), to(-1, -1)):     api.ErrRange,
		room(to(0, 0), to(7, 6)):       api.ErrRange,
		room(to(0, 0), all):            api.ErrRange,
		room(to(31, -1), to(101, -1)):  api.ErrRange,
		{}:                             api.OK,
		room(to(30, 30), to(100, 100)): api.OK,
		room(to(0, 30), to(0, 100)):    api.OK,
		room(to(3, 3), to(31, 99)):     api.OK,
	}
}

// P8.6, P8.7: what is wrong with a rule, before what is wrong with a room, or a lot.
func TestPressErrors(t *testing.T) {
	long := func(i *input) { i.rooms, i.pressed = make([]api.GlueRoom, 51), nil }
	for r, e := range ruleErrors() {
		for x, f := range roomErrors() {
			want := e
			if e == api.OK {
				want = f
			}
			i := good(func(i *input) { i.r, i.room, i.rooms = r, x, list(i.room, x) })
			expect(t, "a room", i, want, "Press", "Open")
			i.rooms = list(x, x)
			expect(t, "like rooms", i, want, "Open")
			i.rooms, i.pressed = list(x, api.GlueRoom{}), list(-1, 2401)
			if e == api.OK {
				want = api.ErrRange
			}
			expect(t, "a room, and times", i, want, "Open")
			i.pressed = list(1)
			if e == api.OK {
				want = api.ErrForm
			}
			expect(t, "a time for two rooms", i, want, "Open")
			long(&i)
			if e == api.OK {
				want = api.ErrLong
			}
			expect(t, "51 rooms", i, want, "Open")
		}
	}
}

// P8.7: what is wrong with a lot.
func TestOpenErrors(t *testing.T) {
	bad := room(to(1, 0), to(0, 0))
	for name, c := range map[string]struct {
		rooms   []api.GlueRoom
		pressed []int
		e       api.Errno
	}{
		"51 rooms":            {make([]api.GlueRoom, 51), make([]int, 51), api.ErrLong},
		"long before form":    {make([]api.GlueRoom, 51), nil, api.ErrLong},
		"long before range":   {slices.Repeat(list(bad), 51), make([]int, 51), api.ErrLong},
		"a time too much":     {make([]api.GlueRoom, 2), make([]int, 3), api.ErrForm},
		"a time less":         {make([]api.GlueRoom, 2), make([]int, 1), api.ErrForm},
		"no times":            {make([]api.GlueRoom, 1), nil, api.ErrForm},
		"no rooms":            {nil, make([]int, 1), api.ErrForm},
		"51 times":            {make([]api.GlueRoom, 50), make([]int, 51), api.ErrForm},
		"form before range":   {list(bad), list(-1, -1), api.ErrForm},
		"the first room":      {list(bad, api.GlueRoom{}), list(1, 1), api.ErrRange},
		"the last room":       {list(api.GlueRoom{}, bad), list(1, 1), api.ErrRange},
		"the time -1":         {make([]api.GlueRoom, 1), list(-1), api.ErrRange},
		"the time 2401":       {make([]api.GlueRoom, 1), list(2401), api.ErrRange},
		"the greatest time":   {make([]api.GlueRoom, 1), list(math.MaxInt), api.ErrRange},
		"the least time":      {make([]api.GlueRoom, 1), list(math.MinInt), api.ErrRange},
		"the last time":       {make([]api.GlueRoom, 2), list(1, -1), api.ErrRange},
		"the first time":      {make([]api.GlueRoom, 2), list(2401, 1), api.ErrRange},
		"none":                {nil, nil, api.OK},
		"empty lists":         {[]api.GlueRoom{}, []int{}, api.OK},
		"50 rooms":            {make([]api.GlueRoom, 50), make([]int, 50), api.OK},
		"the least and most ": {make([]api.GlueRoom, 2), list(0, 2400), api.OK},
	} {
		expect(t, name, good(func(i *input) { i.rooms, i.pressed = c.rooms, c.pressed }), c.e, "Open")
	}
}

// R3: nil lists and empty ones are the same.
func TestEmpty(t *testing.T) {
	p := chapterPlan()
	for _, state := range list(nil, []api.GlueCause{}) {
		for _, froms := range list(nil, []int{}) {
			looks := []api.GlueLook{}[:len(froms)]
			a := glue.State(p, state)
			box, b := glue.Box(p, state, 0)
			many, first, c := glue.Explain(p, froms, looks)
			surely, d := glue.Surely(p, froms, looks)
			groups, f := glue.Alike(p, list(state, nil, []api.GlueCause{}), 1)
			none, g := glue.Alike(p, [][]api.GlueCause{}, 1)
			now, possibly, h := glue.Open(rule(1, 0, 0), []api.GlueRoom{}, froms)
			_, _, k := glue.Look(p, froms, looks, 1)
			_, l := glue.Apart(p, state, nil, 1)
			if !slices.Equal(box, p.Nozzles) || many != 1 || !sameLists(groups, list(list(0, 1, 2))) || len(first)+len(surely)+len(none)+len(now)+len(possibly) > 0 {
				t.Error(box, many, first, surely, groups, none, now, possibly)
			}
			if a+b+c+d+f+g+h != api.OK || k != api.ErrNone || l != api.ErrNone {
				t.Error(a, b, c, d, f, g, h, k, l)
			}
		}
	}
}

// spare returns a list with spare room, full the list with that room.
func spare[E any](list []E) []E { return append(make([]E, 0, 20), list...) }

func full[E any](list []E) []E { return list[:cap(list)] }

// spareInput returns valid arguments in which all lists have spare room, fullInput arguments with that room.
func spareInput() input {
	return good(func(i *input) {
		i.p.Nozzles, i.state, i.other, i.states = spare(i.p.Nozzles), spare(i.state), spare(i.other), spare(i.states)
		for number, state := range i.states {
			i.states[number] = spare(state)
		}
		i.froms, i.looks, i.rooms, i.pressed = spare(i.froms), spare(i.looks), spare(i.rooms), spare(i.pressed)
	})
}

func fullInput(i input) input {
	i.p.Nozzles, i.state, i.other, i.states = full(i.p.Nozzles), full(i.state), full(i.other), slices.Clone(full(i.states))
	for number, state := range i.states {
		i.states[number] = full(state)
	}
	i.froms, i.looks, i.rooms, i.pressed = full(i.froms), full(i.looks), full(i.rooms), full(i.pressed)
	return i
}

// P2, R4: no argument is changed, nor the spare room behind it; results are new memory, and equal for equal arguments.
func TestMemory(t *testing.T) {
	i, before := spareInput(), spareInput()
	for range 2 {
		for f, e := range errorsWith(t, i) {
			if e != api.OK {
				t.Error(f, e)
			}
		}
		box, _ := glue.Box(i.p, i.state, i.box)
		asTold, _ := glue.Box(i.p, nil, i.box)
		_, first, _ := glue.Explain(i.p, i.froms, i.looks)
		nozzles, _ := glue.Surely(i.p, i.froms, i.looks)
		groups, _ := glue.Alike(i.p, i.states, i.boxes)
		surely, possibly, _ := glue.Open(i.r, i.rooms, i.pressed)
		got := list[any](box, asTold, first, nozzles, groups, surely, possibly)
		want := list[any](list(0, 18), list(14, 18), list(cause(0, api.GlueBlocked, 0)), list(0), list(list(0), list(1, 2)), list(0), list(0, 1))
		if !reflect.DeepEqual(got, want) {
			t.Error(got)
		}
		// What is written over here must be seen nowhere else, neither in arguments nor in other parts of results.
		clear(full(groups[0]))
		if !slices.Equal(groups[1], list(1, 2)) {
			t.Error(groups)
		}
		clear(full(groups[1]))
		clear(full(groups))
		clear(full(first))
		clear(full(surely))
		if !slices.Equal(possibly, list(0, 1)) {
			t.Error(possibly)
		}
		for _, numbers := range list(box, asTold, nozzles, possibly) {
			clear(full(numbers))
		}
		if !reflect.DeepEqual(fullInput(i), fullInput(before)) {
			t.Error(i)
		}
	}
}

// P1: with the least and the greatest numbers, and none at all, each function ends.
func TestAnyArguments(t *testing.T) {
	numbers := list(math.MinInt, -1, 0, 1, 6, math.MaxInt)
	for _, a := range numbers {
		for _, b := range numbers {
			for _, p := range list(plan(a, b), plan(a, 0, 1), plan(6, a, b), chapterPlan(), plan(1, 1)) {
				state := list(cause(a, api.GlueKind(b), 0), cause(1, 1, b))
				errorsWith(t, input{
					p: p, state: state[:1], other: state[1:], states: list(nil, state[1:], state), box: a, boxes: b, froms: list(a, b), looks: list(look(a, 0, b, true), look(0, b, a, false)),
					r: rule(a, b, 1), room: room(to(a, b), to(b, a)), rooms: list(room(to(0, a), to(0, b))), pressed: list(a),
				})
				errorsWith(t, input{
					p: p, other: state, states: list(state), box: b, boxes: 20, froms: list(a), looks: list(look(1, 0, 1, a > b)),
					r: rule(1, a, b), room: room(to(0, 1), to(a, b)), rooms: list(room(to(0, 1), to(0, 1))), pressed: list(b),
				})
			}
		}
	}
}
