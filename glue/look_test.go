package glue_test

import (
	"math/rand"
	"slices"
	"testing"

	"testliner/api"
	"testliner/glue"
)

// P8.3, P8.4: the chapter's examples; nothing, something and all that is seen.
func TestLookExamples(t *testing.T) {
	p, single := chapterPlan(), plan(2, 1)
	blocked := look(0, 0, 1, false)
	for i, c := range []struct {
		p      api.GluePlan
		froms  []int
		looks  []api.GlueLook
		many   int
		first  []api.GlueCause
		surely []int
		boxes  int
		at     api.GlueLook
		most   int
	}{
		{p, list(0), nil, 25, nil, nil, 1, look(0, 0, 1, false), 15},
		{p, list(0), list(blocked), 10, list(cause(0, api.GlueBlocked, 0)), list(0), 1, look(0, 0, 2, false), 5},
		{p, list(0), list(blocked, look(0, 0, 2, true)), 5, list(cause(0, api.GlueLate, 0)), list(0), 1, look(0, 1, 1, false), 3},
		// No froms, no causes.
		{p, nil, nil, 1, nil, nil, 20, api.GlueLook{}, 0},
		{p, nil, list(look(1000, 0, 1, true)), 1, nil, nil, 20, api.GlueLook{}, 0},
		// A nozzle that is never told to be open can be wrong all the same, and no place tells.
		{plan(2, 0), list(0, 5), nil, 9, nil, nil, 20, api.GlueLook{}, 0},
		{plan(2, 0), list(0, 5), list(look(7, 0, 0, false), look(7, 0, 1, false)), 9, nil, nil, 20, api.GlueLook{}, 0},
		// One nozzle: fine, blocked, dripping, late, and each second box.
		{single, list(0), nil, 5, nil, nil, 1, look(0, 0, 0, false), 3},
		{single, list(0), nil, 5, nil, nil, 2, look(0, 0, 0, false), 3},
		{single, list(0), list(look(0, 0, 0, true)), 3, nil, nil, 1, look(0, 0, 1, false), 2},
		{single, list(0), list(look(0, 0, 0, true), look(0, 0, 1, false)), 2, nil, nil, 1, api.GlueLook{}, 0},
		{single, list(0), list(look(0, 0, 0, true), look(0, 0, 1, false)), 2, nil, nil, 2, look(1, 0, 0, false), 1},
		{single, list(0), list(look(0, 0, 0, true), look(0, 0, 1, false), look(1, 0, 0, false)), 1, list(cause(0, api.GlueEvery, 0)), list(0), 20, api.GlueLook{}, 0},
		{single, list(0), list(look(0, 0, 1, true)), 1, list(cause(0, api.GlueDrips, 0)), list(0), 20, api.GlueLook{}, 0},
		{single, list(0), list(look(0, 0, 0, false)), 2, list(cause(0, api.GlueBlocked, 0)), list(0), 20, api.GlueLook{}, 0},
		// Where nothing begins in the boxes that are looked at, they tell nothing.
		{single, list(5), nil, 5, nil, nil, 5, api.GlueLook{}, 0},
		{single, list(5), nil, 5, nil, nil, 6, look(5, 0, 0, false), 3},
		{single, list(20), nil, 5, nil, nil, 20, api.GlueLook{}, 0},
		{single, list(1000), list(look(1000, 0, 0, false)), 2, list(cause(0, api.GlueBlocked, 1000)), list(0), 20, api.GlueLook{}, 0},
		// Kinds come before Froms.
		{p, list(0, 1), list(look(1, 0, 1, false), look(0, 0, 1, true)), 36, list(cause(0, api.GlueBlocked, 1)), list(0), 1, look(0, 1, 1, false), 28},
		{p, list(0, 1), list(look(1, 0, 1, false), look(0, 0, 1, true), look(2, 0, 1, true)), 18, list(cause(0, api.GlueEvery, 0)), list(0), 1, look(0, 1, 1, false), 14},
		// Two nozzles surely are wrong, or just one of them.
		{p, list(0), list(look(0, 0, 4, true), look(0, 1, 2, true)), 1, list(cause(0, api.GlueDrips, 0), cause(1, api.GlueDrips, 0)), list(0, 1), 20, api.GlueLook{}, 0},
		{p, list(0), list(look(0, 1, 1, false)), 10, list(cause(1, api.GlueBlocked, 0)), list(1), 1, look(0, 0, 1, false), 6},
		{plan(1, 1, 0, 1), list(0), list(look(0, 0, 0, false), look(0, 2, 0, false)), 4, list(cause(0, api.GlueBlocked, 0), cause(2, api.GlueBlocked, 0)), list(0, 2), 20, api.GlueLook{}, 0},
		// All nozzles, kinds and froms that there can be.
		{greatestPlan(), list(0, 1, 2, 3, 4), nil, 6121, nil, nil, 1, look(0, 0, 0, false), 5919},
		{greatestPlan(), list(0, 1, 2, 3, 4), nil, 6121, nil, nil, 20, look(5, 0, 0, false), 4606},
	} {
		many, first, e := glue.Explain(c.p, c.froms, c.looks)
		surely, f := glue.Surely(c.p, c.froms, c.looks)
		if many != c.many || !slices.Equal(first, c.first) || !slices.Equal(surely, c.surely) || e != api.OK || f != api.OK {
			t.Error(i, many, first, surely, e, f)
		}
		want := api.OK
		if c.most == 0 {
			want = api.ErrNone
		}
		if at, most, e := glue.Look(c.p, c.froms, c.looks, c.boxes); at != c.at || most != c.most || e != want {
			t.Error(i, at, most, e)
		}
	}
}

// scene is a plan, froms, a state that truly is, what was seen of its boxes, and in how many boxes to look next.
type scene struct {
	p     api.GluePlan
	froms []int
	state []api.GlueCause
	looks []api.GlueLook
	boxes int
}

// someScene returns a scene whose state is one of those considered.
func someScene(r *rand.Rand, nozzles, froms int) scene {
	high := pick(r, 2, 6, 25)
	s := scene{p: somePlan(r, nozzles), froms: someFroms(r, froms, high), boxes: pick(r, 1, 2, 5, 20)}
	s.state = pick(r, allStates(s.p, s.froms)...)
	s.looks = someLooks(r, s.p, s.state, pick(r, 0, 1, 2, 5, 12, 40), high+5)
	return s
}

// P8.3: how many states explain the looks, the first of them, and what is wrong in all of them, by all states; some looks are turned round, so that they need not have an explanation.
func TestExplain(t *testing.T) {
	r := rand.New(rand.NewSource(5))
	found := map[api.Errno]int{}
	for range 400 {
		s := someScene(r, 4, 3)
		if r.Intn(3) == 0 && len(s.looks) > 0 {
			i := r.Intn(len(s.looks))
			s.looks[i].Glue = !s.looks[i].Glue
		}
		left := explaining(s.p, s.froms, s.looks)
		many, first, e := glue.Explain(s.p, s.froms, s.looks)
		surely, f := glue.Surely(s.p, s.froms, s.looks)
		found[e]++
		if len(left) == 0 {
			if e != api.ErrState || f != api.ErrState {
				t.Fatal(s, many, first, e, surely, f)
			}
			continue
		}
		if many != len(left) || !slices.Equal(first, left[0]) || e != api.OK || !slices.Equal(surely, wrongNozzles(s.p, left)) || f != api.OK {
			t.Fatal(s, many, first, e, surely, f, left)
		}
	}
	if found[api.ErrState] < 40 || found[api.OK] < 200 {
		t.Error(found)
	}
}

// greater returns for each of some places the greater one of the numbers of states with and without glue there.
func greater(p api.GluePlan, states [][]api.GlueCause, places []api.GlueLook) []int {
	counts := make([]int, len(places))
	for _, state := range states {
		for i, at := range places {
			if seen(p, state, at).Glue {
				counts[i]++
			}
		}
	}
	for i, n := range counts {
		counts[i] = max(n, len(states)-n)
	}
	return counts
}

// P8.4: the first place where the greater number is the least one, by all places and all states.
func TestLook(t *testing.T) {
	r := rand.New(rand.NewSource(6))
	found := map[api.Errno]int{}
	for range 250 {
		s := someScene(r, 2, 2)
		s.boxes = min(s.boxes, 8)
		left, places := explaining(s.p, s.froms, s.looks), allPlaces(s.p, s.boxes)
		numbers := greater(s.p, left, places)
		want, at, f := slices.Min(numbers), places[slices.Index(numbers, slices.Min(numbers))], api.OK
		if want == len(left) {
			want, at, f = 0, api.GlueLook{}, api.ErrNone
		}
		got, most, e := glue.Look(s.p, s.froms, s.looks, s.boxes)
		if got != at || most != want || e != f {
			t.Fatal(s, got, most, e, at, want, f)
		}
		found[e]++
	}
	if found[api.ErrNone] < 50 || found[api.OK] < 50 {
		t.Error(found)
	}
}

// P8.8: the true state is among those that explain what is seen of its boxes.
func TestTrueState(t *testing.T) {
	r := rand.New(rand.NewSource(7))
	for range 300 {
		s := someScene(r, 6, 2)
		many, first, e := glue.Explain(s.p, s.froms, s.looks)
		if e != api.OK || !explains(s.p, first, s.looks) || compareStates(first, s.state) > 0 || len(first) > len(s.state) {
			t.Fatal(s, many, first, e)
		}
		surely, e := glue.Surely(s.p, s.froms, s.looks)
		for _, nozzle := range surely {
			if !slices.ContainsFunc(s.state, func(c api.GlueCause) bool { return c.Nozzle == nozzle }) {
				t.Fatal(s, surely)
			}
		}
		// With more looks fewer states explain them, and no fewer nozzles are surely wrong.
		for len(s.looks) > 0 {
			s.looks = s.looks[1:]
			more, _, f := glue.Explain(s.p, s.froms, s.looks)
			fewer, g := glue.Surely(s.p, s.froms, s.looks)
			if more < many || e != api.OK || f != api.OK || g != api.OK {
				t.Fatal(s, many, more, e, f, g)
			}
			for _, nozzle := range fewer {
				if !slices.Contains(surely, nozzle) {
					t.Fatal(s, surely, fewer)
				}
			}
			many, surely = more, fewer
		}
	}
}

// explainedBy returns how many states explain looks, 0 if none does.
func explainedBy(t *testing.T, s scene, looks ...api.GlueLook) int {
	t.Helper()
	many, _, e := glue.Explain(s.p, s.froms, looks)
	if e != api.OK && e != api.ErrState {
		t.Fatal(s, looks, e)
	}
	return many
}

// P8.9: whatever is seen there, no more than most states are left, and fewer than before; at each other place as many or more can be.
func TestNextLook(t *testing.T) {
	r := rand.New(rand.NewSource(8))
	found := 0
	for range 120 {
		s := someScene(r, 2, 3)
		s.boxes = min(s.boxes, 5)
		s.looks = s.looks[:min(len(s.looks), 3)]
		// From look to look, until no place tells any more.
		for range 12 {
			before := explainedBy(t, s, s.looks...)
			next, most, e := glue.Look(s.p, s.froms, s.looks, s.boxes)
			if e == api.OK && (most >= before || next.Glue) {
				t.Fatal(s, next, most, before)
			}
			for _, at := range allPlaces(s.p, s.boxes) {
				without := explainedBy(t, s, append(slices.Clone(s.looks), at)...)
				worse := max(without, before-without)
				at.Glue = true
				if glued := explainedBy(t, s, append(slices.Clone(s.looks), at)...); glued != before-without {
					t.Fatal(s, at, before, without, glued)
				}
				at.Glue = false
				if e == api.ErrNone && worse != before || e == api.OK && (worse < most || at == next && worse != most) {
					t.Fatal(s, next, most, e, at, worse)
				}
			}
			if e != api.OK {
				break
			}
			found++
			s.looks = append(slices.Clone(s.looks), seen(s.p, s.state, next))
		}
	}
	if found < 60 {
		t.Error(found)
	}
}
