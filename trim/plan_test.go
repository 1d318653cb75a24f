package trim_test

import (
	"cmp"
	"math/rand"
	"slices"
	"testing"

	"testliner/api"
	"testliner/trim"
)

// P4.6, P4.8: the chapter's plans, and others at edges: no set-ups, the longest runs, as little waste, and the smallest list.
func TestPlanExamples(t *testing.T) {
	for i, c := range []struct {
		p       api.TrimPaper
		l       []api.TrimOrder
		plan    []api.TrimSetup
		against []int
	}{
		{chapterPaper(200), chapterOrders(), nil, n(1)},
		{chapterPaper(400), chapterOrders(), chapterPlan(), nil},
		{chapterPaper(200), nil, nil, nil},
		{chapterPaper(200), []api.TrimOrder{order(800, 0, 5), order(2000, 0, 0)}, nil, nil},
		{chapterPaper(200), []api.TrimOrder{order(800, 1, 5)}, []api.TrimSetup{setup(1, 3)}, nil},
		{chapterPaper(200), []api.TrimOrder{order(800, 4, 5)}, nil, n(0)},
		{chapterPaper(200), []api.TrimOrder{order(800, 90, 90)}, []api.TrimSetup{setup(30, 3)}, nil},
		{chapterPaper(200), []api.TrimOrder{order(800, 91, 100)}, nil, n(0)},
		// The most waste that a plan has.
		{api.TrimPaper{Wide: 3000, Trim: to(0, 3000), Webs: 1}, slices.Repeat([]api.TrimOrder{order(1, 30, 30)}, 3), []api.TrimSetup{setup(30, 0, 0, 1), setup(30, 0, 1, 0), setup(30, 1, 0, 0)}, nil},
		// Two set-ups with less waste are worse than one.
		{api.TrimPaper{Wide: 100, Trim: to(0, 50), Webs: 4}, []api.TrimOrder{order(50, 2, 2), order(30, 2, 2)}, []api.TrimSetup{setup(2, 1, 1)}, nil},
		// Without trim a longer run wastes as much; the shortest one is the smallest list.
		{api.TrimPaper{Wide: 2400, Trim: to(0, 0), Webs: 3}, []api.TrimOrder{order(800, 4, 9)}, []api.TrimSetup{setup(2, 3)}, nil},
		{api.TrimPaper{Wide: 100, Trim: to(0, 0), Webs: 4}, []api.TrimOrder{order(50, 4, 90), order(25, 8, 90)}, []api.TrimSetup{setup(4, 1, 2)}, nil},
		{api.TrimPaper{Wide: 100, Trim: to(0, 0), Webs: 3}, []api.TrimOrder{order(50, 4, 90), order(25, 6, 90)}, []api.TrimSetup{setup(4, 1, 2)}, nil},
		// No two orders lie side by side, so that each needs a set-up: four are too many, but three of them are not.
		{api.TrimPaper{Wide: 100, Trim: to(0, 45), Webs: 1}, slices.Repeat([]api.TrimOrder{order(60, 1, 1)}, 4), nil, n(0, 1, 2, 3)},
		{api.TrimPaper{Wide: 100, Trim: to(0, 45), Webs: 1}, slices.Repeat([]api.TrimOrder{order(60, 1, 1)}, 3), []api.TrimSetup{setup(1, 0, 0, 1), setup(1, 0, 1, 0), setup(1, 1, 0, 0)}, nil},
		// The orders 0 and 2, and 1 and 2, and 1 and 3 fill the paper; alone only 2 does.
		{api.TrimPaper{Wide: 100, Trim: to(0, 4), Webs: 2}, []api.TrimOrder{order(49, 2, 2), order(48, 3, 3), order(50, 5, 5), order(52, 0, 0)}, []api.TrimSetup{setup(3, 0, 1, 1, 0), setup(2, 1, 0, 1, 0)}, nil},
		// Alone the order 1 has no plan, but the order 0 fills the paper.
		{api.TrimPaper{Wide: 100, Trim: to(0, 10), Webs: 2}, []api.TrimOrder{order(60, 5, 5), order(35, 5, 5)}, []api.TrimSetup{setup(5, 1, 1)}, nil},
		// None of two orders has a plan alone, and the other does not help: the first one is named.
		{api.TrimPaper{Wide: 100, Trim: to(0, 10), Webs: 2}, []api.TrimOrder{order(100, 1, 1), order(60, 5, 5), order(35, 6, 6)}, nil, n(1)},
		// Each of the orders 0 and 1 needs two set-ups; a set-up for both gives an odd amount to both, or an even one.
		{api.TrimPaper{Wide: 100, Trim: to(20, 70), Webs: 2}, []api.TrimOrder{order(40, 61, 61), order(30, 62, 62)}, nil, n(0, 1)},
		{api.TrimPaper{Wide: 100, Trim: to(20, 70), Webs: 2}, []api.TrimOrder{order(40, 61, 61), order(30, 63, 63)}, []api.TrimSetup{setup(17, 0, 2), setup(29, 1, 1), setup(16, 2, 0)}, nil},
		// The order 1 needs two set-ups, each of the others one; so the order 0, that does with those of others, is not named.
		{api.TrimPaper{Wide: 100, Trim: to(20, 60), Webs: 2}, []api.TrimOrder{order(40, 29, 100), order(40, 61, 61), order(80, 5, 5), order(75, 5, 5)}, nil, n(1, 2, 3)},
		{api.TrimPaper{Wide: 100, Trim: to(0, 45), Webs: 1}, []api.TrimOrder{order(60, 0, 0), order(60, 31, 31)}, nil, n(1)},
	} {
		plan, e := trim.Plan(c.p, c.l)
		against, f := trim.Against(c.p, c.l)
		switch {
		case c.against == nil:
			if !same(plan, c.plan) || e != api.OK || len(against) != 0 || f != api.ErrNone {
				t.Error(i, plan, e, against, f)
			}
		default:
			if len(plan) != 0 || e != api.ErrState || !slices.Equal(against, c.against) || f != api.OK {
				t.Error(i, plan, e, against, f)
			}
		}
	}
}

// P4.6, P4.11: Plan returns the best of all plans that do.
func TestPlanAgainstAllPlans(t *testing.T) {
	r := rand.New(rand.NewSource(46))
	setups := map[int]int{}
	check := func(p api.TrimPaper, l []api.TrimOrder) {
		plan, e := trim.Plan(p, l)
		want, found := truePlan(p, l)
		if found != (e == api.OK) || !same(plan, want) || e != api.OK && e != api.ErrState {
			t.Fatal(p, l, plan, want, e)
		}
		if !found {
			setups[-1]++
			return
		}
		setups[len(want)]++
	}
	for range 250 {
		check(someJob(r))
	}
	for range 150 {
		check(somePaper(r), someOrders(r, 3, 15))
	}
	for many := range n(0, 1, 2, 3, 4) {
		if setups[many-1] < 5 {
			t.Error(setups)
		}
	}
}

// P4.5, P4.7, P4.11: by the best plan each order gets enough, and nothing is below the bound.
func TestPlanProperties(t *testing.T) {
	r := rand.New(rand.NewSource(411))
	plans := 0
	for range 1500 {
		p, l := someJob(r)
		plan, e := trim.Plan(p, l)
		if e == api.ErrState {
			continue
		}
		plans++
		got, waste, at, f := trim.Get(p, l, plan)
		if e != api.OK || f != api.OK || at != 0 || !enough(l, got) || waste != trueWaste(p, l, plan) {
			t.Fatal(p, l, plan, got, waste, at, e, f)
		}
		runs := 0
		for _, s := range plan {
			runs += s.Run
		}
		setups, run, lost, f := trim.Bound(p, l)
		if f != api.OK || len(plan) < setups || runs < run || waste < lost {
			t.Fatal(p, l, plan, setups, run, lost, f)
		}
	}
	if plans < 500 {
		t.Error(plans)
	}
}

// P4.11: if Needs are wider, or there are more patterns, there still is a plan, which is not worse.
func TestPlanNotWorse(t *testing.T) {
	r := rand.New(rand.NewSource(412))
	for range 300 {
		p, l := someJob(r)
		plan, e := trim.Plan(p, l)
		if e != api.OK {
			continue
		}
		wider := slices.Clone(l)
		for i, o := range wider {
			wider[i].Need = to(max(0, o.Need.Low-r.Intn(3)), min(100, o.Need.High+r.Intn(3)))
		}
		if better := planOf(t, p, wider); comparePlans(p, l, better, plan) > 0 {
			t.Fatal(p, l, wider, plan, better)
		}
		q := api.TrimPaper{Wide: p.Wide, Trim: to(max(0, p.Trim.Low-r.Intn(9)), p.Trim.High+r.Intn(9)), Webs: min(4, p.Webs+r.Intn(2))}
		if better := planOf(t, q, l); comparePlans(p, l, better, plan) > 0 {
			t.Fatal(p, q, l, plan, better)
		}
	}
}

// P4.6: Choose returns the first of the papers whose plans have the fewest set-ups, and of these the least waste; the lists do not count.
func TestChoose(t *testing.T) {
	for i, c := range []struct {
		papers []api.TrimPaper
		best   int
		e      api.Errno
	}{
		{[]api.TrimPaper{chapterPaper(200), chapterPaper(400)}, 1, api.OK},
		{[]api.TrimPaper{chapterPaper(400), chapterPaper(200)}, 0, api.OK},
		{[]api.TrimPaper{chapterPaper(400), chapterPaper(400)}, 0, api.OK},
		// With less paper at the edges there is less waste.
		{[]api.TrimPaper{chapterPaper(400), {Wide: 2480, Trim: to(0, 380), Webs: 4}}, 1, api.OK},
		{[]api.TrimPaper{chapterPaper(200), chapterPaper(200)}, 0, api.ErrState},
	} {
		if best, e := trim.Choose(c.papers, chapterOrders()); best != c.best || e != c.e {
			t.Error(i, best, e)
		}
	}
	// One set-up with much waste is better than two with little; of the same waste the first paper, though its list is greater.
	pair := []api.TrimOrder{order(50, 2, 2), order(25, 2, 2)}
	little := api.TrimPaper{Wide: 50, Trim: to(0, 0), Webs: 2}
	much := api.TrimPaper{Wide: 3000, Trim: to(0, 3000), Webs: 2}
	if best, e := trim.Choose([]api.TrimPaper{little, much, little}, pair); best != 1 || e != api.OK {
		t.Error(best, e)
	}
	alike := []api.TrimOrder{order(50, 2, 2), order(50, 0, 0)}
	if best, e := trim.Choose([]api.TrimPaper{{Wide: 50, Trim: to(0, 0), Webs: 1}, {Wide: 100, Trim: to(0, 0), Webs: 2}}, alike); best != 0 || e != api.OK {
		t.Error(best, e)
	}
	r := rand.New(rand.NewSource(461))
	for range 300 {
		_, l := someJob(r)
		papers := make([]api.TrimPaper, some(r, 1, 4))
		for i := range papers {
			papers[i] = somePaper(r)
		}
		want := -1
		var plan []api.TrimSetup
		for i, p := range papers {
			other, e := trim.Plan(p, l)
			if e == api.OK && (want < 0 || cmp.Or(cmp.Compare(len(other), len(plan)), cmp.Compare(trueWaste(p, l, other), trueWaste(papers[want], l, plan))) < 0) {
				want, plan = i, other
			}
		}
		best, e := trim.Choose(papers, l)
		if want < 0 && (best != 0 || e != api.ErrState) || want >= 0 && (best != want || e != api.OK) {
			t.Fatal(papers, l, best, want, e)
		}
	}
}

// P4.8, P4.12: Against is the first of the smallest sets of orders that have no plan; without any one of them there is a plan.
func TestAgainst(t *testing.T) {
	r := rand.New(rand.NewSource(48))
	sizes := map[int]int{}
	check := func(p api.TrimPaper, l []api.TrimOrder) {
		against, e := trim.Against(p, l)
		all := 1<<len(l) - 1
		if has(p, l, chosen(all)) {
			if len(against) != 0 || e != api.ErrNone {
				t.Fatal(p, l, against, e)
			}
			return
		}
		want := chosen(all)
		for set := range all {
			numbers := chosen(set)
			if cmp.Or(cmp.Compare(len(numbers), len(want)), slices.Compare(numbers, want)) < 0 && !has(p, l, numbers) {
				want = numbers
			}
		}
		if !slices.Equal(against, want) || e != api.OK {
			t.Fatal(p, l, against, want, e)
		}
		for i := range against {
			if !has(p, l, slices.Delete(slices.Clone(against), i, i+1)) {
				t.Fatal(p, l, against, i)
			}
		}
		sizes[len(against)]++
	}
	for range 800 {
		check(someJob(r))
		check(somePaper(r), someOrders(r, 4, 40))
		// Orders that mostly need set-ups of their own.
		p, l := somePaper(r), someOrders(r, 4, 30)
		p.Trim = to(0, 60)
		for i := range l {
			l[i].Width = some(r, 40, 60)
		}
		check(p, l)
		for i := range l {
			l[i] = order(pick(r, 20, 30, 40, 75, 80), 0, 0)
			low := pick(r, 5, 30, 60, 61, 62)
			l[i].Need = to(low, low+pick(r, 0, 0, 1))
		}
		check(api.TrimPaper{Wide: 100, Trim: to(20, pick(r, 60, 70)), Webs: 2}, l)
	}
	for size := range n(0, 1, 2, 3) {
		if sizes[size+1] < 5 {
			t.Error(sizes)
		}
	}
}
