package glue_test

import (
	"math/rand"
	"slices"
	"testing"

	"testliner/api"
	"testliner/glue"
)

// P8.2: the chapter's example; runs, edges, and the box at which something begins.
func TestBoxExamples(t *testing.T) {
	one := func(kind api.GlueKind, from int) []api.GlueCause { return list(cause(0, kind, from)) }
	for i, c := range []struct {
		p     api.GluePlan
		state []api.GlueCause
		box   int
		glue  []int
	}{
		{chapterPlan(), nil, 5, list(14, 18)},
		{chapterPlan(), one(api.GlueBlocked, 3), 5, list(0, 18)},
		{chapterPlan(), one(api.GlueBlocked, 3), 3, list(0, 18)},
		{chapterPlan(), one(api.GlueBlocked, 3), 2, list(14, 18)},
		{chapterPlan(), one(api.GlueLate, 0), 5, list(12, 18)},
		{chapterPlan(), list(cause(1, api.GlueLate, 0)), 5, list(14, 0)},
		{chapterPlan(), list(cause(0, api.GlueDrips, 0), cause(1, api.GlueDrips, 0)), 5, list(30, 54)},
		{chapterPlan(), list(cause(0, api.GlueDrips, 5), cause(1, api.GlueDrips, 6)), 5, list(30, 18)},
		{chapterPlan(), list(cause(1, api.GlueEvery, 0)), 5, list(14, 0)},
		{chapterPlan(), list(cause(1, api.GlueEvery, 0)), 4, list(14, 18)},
		// Which boxes have none does not depend on the box from which on it is so.
		{chapterPlan(), list(cause(1, api.GlueEvery, 3)), 1, list(14, 18)},
		{chapterPlan(), list(cause(1, api.GlueEvery, 3)), 3, list(14, 0)},
		{chapterPlan(), list(cause(1, api.GlueEvery, 4)), 4, list(14, 18)},
		{chapterPlan(), list(cause(1, api.GlueEvery, 4)), 5, list(14, 0)},
		{chapterPlan(), list(cause(0, api.GlueEvery, 0), cause(1, api.GlueEvery, 0)), 0, list(14, 18)},
		{chapterPlan(), list(cause(0, api.GlueEvery, 0), cause(1, api.GlueEvery, 1000)), 999, list(0, 18)},
		{chapterPlan(), one(api.GlueBlocked, 1000), 999, list(14, 18)},
		{chapterPlan(), one(api.GlueBlocked, 1000), 1000, list(0, 18)},
		// After the last step there is no step in which it could drip.
		{plan(4, 8), one(api.GlueDrips, 0), 0, list(8)},
		{plan(4, 4), one(api.GlueDrips, 0), 0, list(12)},
		{plan(4, 15), one(api.GlueDrips, 0), 0, list(15)},
		{plan(1, 1), one(api.GlueDrips, 0), 0, list(1)},
		{plan(4, 5), one(api.GlueDrips, 0), 0, list(15)},
		{plan(4, 0), one(api.GlueDrips, 0), 0, list(0)},
		// The first step of each run, also if that is the first or the last step of all.
		{plan(4, 1), one(api.GlueLate, 0), 0, list(0)},
		{plan(4, 8), one(api.GlueLate, 0), 0, list(0)},
		{plan(4, 15), one(api.GlueLate, 0), 0, list(14)},
		{plan(4, 11), one(api.GlueLate, 0), 0, list(2)},
		{plan(8, 0b11101101), one(api.GlueLate, 0), 0, list(0b11001000)},
		{plan(4, 0), one(api.GlueLate, 0), 0, list(0)},
		{greatestPlan(), list(cause(0, api.GlueLate, 0), cause(5, api.GlueDrips, 0)), 1000, list(65534, 0, 43690, 3, 49152, 65534)},
		{greatestPlan(), list(cause(2, api.GlueDrips, 0), cause(4, api.GlueLate, 0)), 0, list(65535, 0, 65534, 3, 32768, 28662)},
	} {
		if got, e := glue.Box(c.p, c.state, c.box); !slices.Equal(got, c.glue) || e != api.OK {
			t.Error(i, got, e)
		}
	}
}

// P8.2: step by step, for all plans of one nozzle with few steps, and for some larger ones.
func TestBox(t *testing.T) {
	check := func(p api.GluePlan, state []api.GlueCause, box int) {
		t.Helper()
		want := sums(trueGlue(p, state, box))
		if got, e := glue.Box(p, state, box); !slices.Equal(got, want) || e != api.OK {
			t.Fatal(p, state, box, got, e, want)
		}
	}
	for steps := 1; steps <= 6; steps++ {
		for told := range 1 << steps {
			for _, kind := range kinds() {
				for box := range 5 {
					check(plan(steps, told), list(cause(0, kind, 2)), box)
				}
			}
		}
	}
	r := rand.New(rand.NewSource(1))
	for range 3000 {
		p := somePlan(r, 6)
		high := pick(r, 3, 20, 1000)
		check(p, someState(r, p, high), some(r, 0, high))
	}
}

// P8.11: before all From as it is told; what each kind takes away, and adds.
func TestKinds(t *testing.T) {
	r := rand.New(rand.NewSource(2))
	for range 3000 {
		p := somePlan(r, 6)
		from := some(r, 1, 1000)
		nozzle, kind := r.Intn(len(p.Nozzles)), pick(r, kinds()...)
		state := list(cause(nozzle, kind, from))
		if before, e := glue.Box(p, state, some(r, 0, from-1)); !slices.Equal(before, p.Nozzles) || e != api.OK {
			t.Error(p, state, before, e)
		}
		got, e := glue.Box(p, state, some(r, from, 1000))
		told, is := p.Nozzles[nozzle], got[nozzle]
		switch {
		case e != api.OK,
			kind == api.GlueBlocked && is != 0,
			kind == api.GlueDrips && is&told != told,
			kind == api.GlueLate && is&told != is,
			kind == api.GlueEvery && is != 0 && is != told:
			t.Error(p, state, got, e)
		}
		got[nozzle] = told
		if !slices.Equal(got, p.Nozzles) {
			t.Error("other nozzles", p, state, got)
		}
	}
}

// P8.5: the chapter's plan: the first place by Box, then by Nozzle, then by Step, and what a has there.
func TestApartExamples(t *testing.T) {
	one := func(nozzle int, kind api.GlueKind, from int) []api.GlueCause {
		return list(cause(nozzle, kind, from))
	}
	two := list(cause(0, api.GlueBlocked, 3), cause(1, api.GlueBlocked, 2))
	for i, c := range []struct {
		a, b  []api.GlueCause
		boxes int
		at    api.GlueLook
		e     api.Errno
	}{
		{nil, nil, 20, api.GlueLook{}, api.ErrNone},
		{nil, one(0, api.GlueBlocked, 0), 1, look(0, 0, 1, true), api.OK},
		{one(0, api.GlueBlocked, 0), nil, 1, look(0, 0, 1, false), api.OK},
		{one(0, api.GlueDrips, 0), nil, 1, look(0, 0, 4, true), api.OK},
		{nil, one(0, api.GlueDrips, 0), 1, look(0, 0, 4, false), api.OK},
		{one(0, api.GlueLate, 0), one(0, api.GlueBlocked, 0), 1, look(0, 0, 2, true), api.OK},
		{one(0, api.GlueBlocked, 3), nil, 3, api.GlueLook{}, api.ErrNone},
		{one(0, api.GlueBlocked, 3), nil, 4, look(3, 0, 1, false), api.OK},
		{one(0, api.GlueBlocked, 19), nil, 19, api.GlueLook{}, api.ErrNone},
		{one(0, api.GlueBlocked, 19), nil, 20, look(19, 0, 1, false), api.OK},
		{one(0, api.GlueBlocked, 20), nil, 20, api.GlueLook{}, api.ErrNone},
		// A nozzle that opens for single steps just looks alike if it is blocked, and if it is late.
		{one(1, api.GlueBlocked, 0), one(1, api.GlueLate, 0), 20, api.GlueLook{}, api.ErrNone},
		{one(0, api.GlueBlocked, 0), one(0, api.GlueLate, 0), 20, look(0, 0, 2, false), api.OK},
		// The first box counts more than the first nozzle, and that more than the first step.
		{two, nil, 20, look(2, 1, 1, false), api.OK},
		{list(cause(0, api.GlueDrips, 0), cause(1, api.GlueBlocked, 0)), nil, 20, look(0, 0, 4, true), api.OK},
		{one(1, api.GlueDrips, 5), one(0, api.GlueDrips, 5), 20, look(5, 0, 4, false), api.OK},
		{one(1, api.GlueEvery, 2), one(1, api.GlueEvery, 3), 20, api.GlueLook{}, api.ErrNone},
		{one(1, api.GlueEvery, 3), one(1, api.GlueEvery, 4), 20, look(3, 1, 1, false), api.OK},
		{one(0, api.GlueEvery, 0), one(0, api.GlueBlocked, 1), 2, api.GlueLook{}, api.ErrNone},
		{one(0, api.GlueEvery, 0), one(0, api.GlueBlocked, 1), 3, look(2, 0, 1, true), api.OK},
	} {
		if at, e := glue.Apart(chapterPlan(), c.a, c.b, c.boxes); at != c.at || e != c.e {
			t.Error(i, at, e)
		}
	}
	// A nozzle that is never told to be open looks as if it were fine.
	for _, kind := range kinds() {
		if at, e := glue.Apart(plan(16, 0), one(0, kind, 0), nil, 20); at != (api.GlueLook{}) || e != api.ErrNone {
			t.Error(kind, at, e)
		}
	}
}

// P8.5: the groups of the states of some examples.
func TestAlikeExamples(t *testing.T) {
	states := [][]api.GlueCause{
		nil, list(cause(0, api.GlueEvery, 0)), list(cause(0, api.GlueBlocked, 1)), list(cause(1, api.GlueLate, 0)), list(cause(1, api.GlueBlocked, 0)), list(cause(0, api.GlueEvery, 1)), nil,
	}
	for i, c := range []struct {
		states [][]api.GlueCause
		boxes  int
		groups [][]int
	}{
		{states, 1, list(list(0, 1, 2, 5, 6), list(3, 4))},
		{states, 2, list(list(0, 6), list(1, 2, 5), list(3, 4))},
		{states, 3, list(list(0, 6), list(1, 5), list(2), list(3, 4))},
		{states, 20, list(list(0, 6), list(1, 5), list(2), list(3, 4))},
		{nil, 20, nil},
		{states[:1], 20, list(list(0))},
		{states[1:5], 3, list(list(0), list(1), list(2, 3))},
		{list(states[3], states[1], nil, states[4], states[2]), 1, list(list(0, 3), list(1, 2, 4))},
	} {
		if groups, e := glue.Alike(chapterPlan(), c.states, c.boxes); !sameLists(groups, c.groups) || e != api.OK {
			t.Error(i, groups, e)
		}
	}
	every := make([][]api.GlueCause, 30)
	var numbers []int
	for number := range every {
		every[number] = list(cause(3, api.GlueEvery, 20+number))
		numbers = append(numbers, number)
	}
	if groups, e := glue.Alike(greatestPlan(), every, 20); !sameLists(groups, list(numbers)) || e != api.OK {
		t.Error(groups, e)
	}
}

// firstApart returns the first place of so many boxes at which two states differ, with what the first one has there.
func firstApart(p api.GluePlan, a, b []api.GlueCause, boxes int) (api.GlueLook, api.Errno) {
	for _, at := range allPlaces(p, boxes) {
		if seen(p, a, at) != seen(p, b, at) {
			return seen(p, a, at), api.OK
		}
	}
	return api.GlueLook{}, api.ErrNone
}

// likeStates returns some states of a plan, some of which are alike, or differ in one thing.
func likeStates(r *rand.Rand, p api.GluePlan, many int) [][]api.GlueCause {
	states := list[[]api.GlueCause]()
	for range many {
		state := someState(r, p, pick(r, 0, 2, 19))
		if len(states) > 0 && r.Intn(3) > 0 {
			state = slices.Clone(states[r.Intn(len(states))])
			for i := range state {
				state[i].From = pick(r, state[i].From, state[i].From+1)
				state[i].Kind = pick(r, state[i].Kind, state[i].Kind, api.GlueBlocked, api.GlueEvery)
			}
		}
		states = append(states, state)
	}
	return states
}

// P8.5: by all places, one after another.
func TestApart(t *testing.T) {
	r := rand.New(rand.NewSource(3))
	found := map[api.Errno]int{}
	for range 1500 {
		p, boxes := somePlan(r, 3), pick(r, 1, 2, 3, 20)
		states := likeStates(r, p, 2)
		want, f := firstApart(p, states[0], states[1], boxes)
		if at, e := glue.Apart(p, states[0], states[1], boxes); at != want || e != f {
			t.Fatal(p, states, boxes, at, e, want, f)
		}
		found[f]++
	}
	if found[api.OK] < 300 || found[api.ErrNone] < 300 {
		t.Error(found)
	}
}

// P8.5, P8.10: states are in one group just if they have the same glue in all boxes, and if Apart has ErrNone; with more boxes groups fall apart just.
func TestAlike(t *testing.T) {
	r := rand.New(rand.NewSource(4))
	apart, together := 0, 0
	for range 150 {
		p, boxes := somePlan(r, 3), pick(r, 1, 2, 3, 19)
		states := likeStates(r, p, pick(r, 2, 5, 30))
		group := groupsOf(t, p, states, boxes)
		later := groupsOf(t, p, states, some(r, boxes+1, 20))
		for a := range states {
			for b := range states {
				same := true
				for box := range boxes {
					same = same && slices.Equal(sums(trueGlue(p, states[a], box)), sums(trueGlue(p, states[b], box)))
				}
				_, e := glue.Apart(p, states[a], states[b], boxes)
				if same != (group[a] == group[b]) || same != (e == api.ErrNone) || !same && later[a] == later[b] {
					t.Fatal(p, states, boxes, a, b, same, group, later, e)
				}
				if same {
					together++
				} else {
					apart++
				}
			}
		}
	}
	if apart < 1000 || together < 1000 {
		t.Error(apart, together)
	}
}

// groupsOf returns the group of each state, and checks that each is in one, and how groups are ordered.
func groupsOf(t *testing.T, p api.GluePlan, states [][]api.GlueCause, boxes int) []int {
	t.Helper()
	groups, e := glue.Alike(p, states, boxes)
	group := slices.Repeat(list(-1), len(states))
	before := -1
	for number, of := range groups {
		if len(of) == 0 || of[0] <= before || !slices.IsSorted(of) {
			t.Fatal(p, states, groups)
		}
		before = of[0]
		for _, state := range of {
			if group[state] >= 0 {
				t.Fatal(p, states, groups)
			}
			group[state] = number
		}
	}
	if slices.Contains(group, -1) || e != api.OK {
		t.Fatal(p, states, groups, e)
	}
	return group
}
