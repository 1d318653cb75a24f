package trim_test

import (
	"math/rand"
	"reflect"
	"slices"
	"testing"

	"testliner/api"
	"testliner/trim"
)

// P4.2: the chapter's patterns, with their trims, and what the ends of a paper's limits do.
func TestPatternExamples(t *testing.T) {
	pair := []api.TrimOrder{order(40, 0, 0), order(30, 0, 0)}
	for i, c := range []struct {
		p        api.TrimPaper
		l        []api.TrimOrder
		patterns [][]int
		trims    []int
	}{
		{chapterPaper(200), chapterOrders(), [][]int{{0, 0, 2}, {2, 1, 0}, {3, 0, 0}}, n(100, 200, 100)},
		{chapterPaper(400), chapterOrders(), [][]int{{0, 0, 2}, {0, 3, 0}, {1, 2, 0}, {2, 1, 0}, {3, 0, 0}}, n(100, 400, 300, 200, 100)},
		{chapterPaper(199), chapterOrders(), [][]int{{0, 0, 2}, {3, 0, 0}}, n(100, 100)},
		{api.TrimPaper{Wide: 2500, Trim: to(200, 300), Webs: 4}, chapterOrders(), [][]int{{1, 2, 0}, {2, 1, 0}}, n(300, 200)},
		{api.TrimPaper{Wide: 2500, Trim: to(201, 300), Webs: 4}, chapterOrders(), [][]int{{1, 2, 0}}, n(300)},
		{chapterPaper(200), nil, nil, nil},
		// All of the paper is not a pattern, though its trim would do: no order has a web.
		{api.TrimPaper{Wide: 100, Trim: to(100, 100), Webs: 4}, pair, nil, nil},
		{api.TrimPaper{Wide: 100, Trim: to(0, 100), Webs: 1}, pair, [][]int{{0, 1}, {1, 0}}, n(70, 60)},
		{api.TrimPaper{Wide: 100, Trim: to(0, 100), Webs: 3}, pair, [][]int{{0, 1}, {0, 2}, {0, 3}, {1, 0}, {1, 1}, {1, 2}, {2, 0}}, n(70, 40, 10, 60, 30, 0, 20)},
		{api.TrimPaper{Wide: 100, Trim: to(0, 0), Webs: 4}, []api.TrimOrder{order(25, 0, 0)}, [][]int{{4}}, n(0)},
		// Of three orders no more than two have webs.
		{api.TrimPaper{Wide: 3, Trim: to(0, 1), Webs: 3}, []api.TrimOrder{order(1, 0, 0), order(1, 0, 0), order(1, 0, 0)}, [][]int{{0, 0, 2}, {0, 0, 3}, {0, 1, 1}, {0, 1, 2}, {0, 2, 0}, {0, 2, 1}, {0, 3, 0}, {1, 0, 1}, {1, 0, 2}, {1, 1, 0}, {1, 2, 0}, {2, 0, 0}, {2, 0, 1}, {2, 1, 0}, {3, 0, 0}}, n(1, 0, 1, 0, 1, 0, 0, 1, 0, 1, 0, 1, 0, 0, 0)},
	} {
		patterns, e := trim.Patterns(c.p, c.l)
		if e != api.OK || len(patterns) != len(c.patterns) || len(patterns) > 0 && !reflect.DeepEqual(patterns, c.patterns) {
			t.Error(i, patterns, e)
		}
		for j, webs := range patterns {
			if lost, e := trim.Trim(c.p, c.l, webs); lost != c.trims[j] || e != api.OK {
				t.Error(i, webs, lost, e)
			}
		}
	}
}

// P4.2: Patterns has all webs that are a pattern, and Trim tells which are.
func TestPatternsAgainstAllWebs(t *testing.T) {
	r := rand.New(rand.NewSource(41))
	for range 400 {
		p, l := somePaper(r), someOrders(r, 4, 100)
		patterns, e := trim.Patterns(p, l)
		want := truePatterns(p, l)
		if e != api.OK || !slices.EqualFunc(patterns, want, slices.Equal[[]int]) {
			t.Fatal(p, l, patterns, want)
		}
		eachWebs(len(l), func(webs []int) {
			lost, e := trim.Trim(p, l, webs)
			if isPattern(p, l, webs) != (e == api.OK) || e == api.OK && lost != trueTrim(p, l, webs) || e != api.OK && e != api.ErrNone {
				t.Fatal(p, l, webs, lost, e)
			}
		})
	}
}

// P4.3: the chapter's knives, and an odd trim.
func TestKnivesExamples(t *testing.T) {
	odd := api.TrimPaper{Wide: 106, Trim: to(0, 50), Webs: 4}
	small := []api.TrimOrder{order(30, 0, 0), order(45, 0, 0), order(20, 0, 0)}
	for i, c := range []struct {
		p            api.TrimPaper
		l            []api.TrimOrder
		webs, places []int
	}{
		{chapterPaper(400), chapterOrders(), n(2, 1, 0), n(100, 900, 1700, 2400)},
		{chapterPaper(400), chapterOrders(), n(0, 0, 2), n(50, 1250, 2450)},
		{chapterPaper(400), chapterOrders(), n(1, 2, 0), n(150, 950, 1650, 2350)},
		{odd, small, n(1, 1, 0), n(15, 45, 90)},
		{odd, small, n(0, 1, 2), n(10, 55, 75, 95)},
		{odd, small, n(1, 0, 2), n(18, 48, 68, 88)},
		{api.TrimPaper{Wide: 100, Trim: to(0, 0), Webs: 4}, []api.TrimOrder{order(25, 0, 0)}, n(4), n(0, 25, 50, 75, 100)},
		{api.TrimPaper{Wide: 100, Trim: to(1, 1), Webs: 1}, []api.TrimOrder{order(99, 0, 0)}, n(1), n(0, 99)},
	} {
		if places, e := trim.Knives(c.p, c.l, c.webs); !slices.Equal(places, c.places) || e != api.OK {
			t.Error(i, places, e)
		}
	}
}

// P4.3, P4.13: between each two knives there is a web, in the order of the orders; the trim at the left is that at the right, or less by one.
func TestKnivesOfPatterns(t *testing.T) {
	r := rand.New(rand.NewSource(43))
	for range 400 {
		p, l := somePaper(r), someOrders(r, 4, 100)
		for _, webs := range truePatterns(p, l) {
			places, e := trim.Knives(p, l, webs)
			if e != api.OK || len(places) != sumOf(webs)+1 {
				t.Fatal(p, l, webs, places, e)
			}
			var widths []int
			for i, many := range webs {
				widths = append(widths, slices.Repeat(n(l[i].Width), many)...)
			}
			for i, width := range widths {
				if places[i+1]-places[i] != width {
					t.Fatal(p, l, webs, places)
				}
			}
			left, right := places[0], p.Wide-places[len(places)-1]
			if left != right && left != right-1 || left+right != trueTrim(p, l, webs) {
				t.Fatal(p, l, webs, places)
			}
		}
	}
}

// P4.5: what each order gets by a plan, and its waste.
func TestGetExamples(t *testing.T) {
	for i, c := range []struct {
		plan  []api.TrimSetup
		got   []int
		waste int
	}{
		{chapterPlan(), n(10, 8, 4), 1600},
		{[]api.TrimSetup{setup(2, 0, 0, 2), setup(4, 1, 2, 0), setup(2, 3, 0, 0)}, n(10, 8, 4), 1600},
		{[]api.TrimSetup{setup(2, 0, 0, 2), setup(2, 1, 2, 0), setup(4, 2, 1, 0)}, n(10, 8, 4), 1600},
		{[]api.TrimSetup{setup(2, 0, 0, 2), setup(3, 0, 3, 0), setup(4, 3, 0, 0)}, n(12, 9, 4), 1800},
	} {
		got, waste, at, e := trim.Get(chapterPaper(400), chapterOrders(), c.plan)
		if !slices.Equal(got, c.got) || waste != c.waste || at != 0 || e != api.OK {
			t.Error(i, got, waste, at, e)
		}
	}
	got, waste, at, e := trim.Get(chapterPaper(400), nil, nil)
	if len(got) != 0 || waste != 0 || at != 0 || e != api.OK {
		t.Error(got, waste, at, e)
	}
	// The greatest run, of a plan that has a pattern alone.
	got, waste, at, e = trim.Get(chapterPaper(400), []api.TrimOrder{order(800, 90, 90)}, []api.TrimSetup{setup(30, 3)})
	if !slices.Equal(got, n(90)) || waste != 3000 || at != 0 || e != api.OK {
		t.Error(got, waste, at, e)
	}
}

// P4.5: Get agrees with what a plan is, for all plans with runs up to 3, whether they do or not.
func TestGetOfAllPlans(t *testing.T) {
	r := rand.New(rand.NewSource(45))
	for range 60 {
		p, l := somePaper(r), someOrders(r, 3, 9)
		patterns := truePatterns(p, l)
		for i, a := range patterns {
			for _, b := range patterns[i+1:] {
				plan := []api.TrimSetup{setup(some(r, 1, 3), a...), setup(some(r, 1, 3), b...)}
				got, waste, at, e := trim.Get(p, l, plan)
				want := trueGot(l, plan)
				if enough(l, want) {
					if !slices.Equal(got, want) || waste != trueWaste(p, l, plan) || at != 0 || e != api.OK {
						t.Fatal(p, l, plan, got, waste, at, e)
					}
				} else if e != api.ErrState || enough(l[at:at+1], want[at:]) || !enough(l[:at], want) {
					t.Fatal(p, l, plan, at, e)
				}
			}
		}
	}
}

// P4.7: the chapter's bound, and others at the edges of its roundings.
func TestBoundExamples(t *testing.T) {
	for i, c := range []struct {
		p                  api.TrimPaper
		l                  []api.TrimOrder
		setups, run, waste int
	}{
		{chapterPaper(400), chapterOrders(), 2, 8, 160},
		{chapterPaper(400), nil, 0, 0, 0},
		{chapterPaper(400), []api.TrimOrder{order(800, 0, 9)}, 0, 0, 0},
		{chapterPaper(400), []api.TrimOrder{order(800, 0, 9), order(800, 1, 9)}, 1, 1, 20},
		{chapterPaper(400), []api.TrimOrder{order(800, 2, 9), order(840, 1, 9)}, 1, 1, 20},
		{chapterPaper(400), []api.TrimOrder{order(1240, 2, 9)}, 1, 1, 20},
		{chapterPaper(400), []api.TrimOrder{order(1241, 2, 9)}, 1, 2, 40},
		{chapterPaper(400), []api.TrimOrder{order(9, 1, 1), order(9, 1, 1), order(9, 1, 1), order(9, 1, 1)}, 2, 1, 20},
		{api.TrimPaper{Wide: 1, Trim: to(0, 9), Webs: 1}, slices.Repeat([]api.TrimOrder{order(3000, 100, 100)}, 4), 2, 1200000, 0},
		{api.TrimPaper{Wide: 3000, Trim: to(2999, 3000), Webs: 1}, []api.TrimOrder{order(3000, 100, 100)}, 1, 300000, 899700000},
	} {
		setups, run, waste, e := trim.Bound(c.p, c.l)
		if setups != c.setups || run != c.run || waste != c.waste || e != api.OK {
			t.Error(i, setups, run, waste, e)
		}
	}
}

// P4.9: what orders still need after a break in the chapter's plan; no end is below 0.
func TestRestExamples(t *testing.T) {
	for i, c := range []struct {
		at, done int
		left     []api.TrimOrder
	}{
		{0, 0, chapterOrders()},
		{0, 1, []api.TrimOrder{order(800, 10, 12), order(700, 8, 9), order(1200, 2, 2)}},
		{0, 2, []api.TrimOrder{order(800, 10, 12), order(700, 8, 9), order(1200, 0, 0)}},
		{1, 0, []api.TrimOrder{order(800, 10, 12), order(700, 8, 9), order(1200, 0, 0)}},
		{1, 1, []api.TrimOrder{order(800, 10, 12), order(700, 5, 6), order(1200, 0, 0)}},
		{2, 3, []api.TrimOrder{order(800, 4, 6), order(700, 2, 3), order(1200, 0, 0)}},
		{2, 5, []api.TrimOrder{order(800, 0, 2), order(700, 0, 1), order(1200, 0, 0)}},
	} {
		if left, e := trim.Rest(chapterPaper(400), chapterOrders(), chapterPlan(), c.at, c.done); !slices.Equal(left, c.left) || e != api.OK {
			t.Error(i, left, e)
		}
	}
	left, e := trim.Rest(chapterPaper(400), []api.TrimOrder{order(800, 2, 20)}, []api.TrimSetup{setup(5, 3)}, 0, 4)
	if !slices.Equal(left, []api.TrimOrder{order(800, 0, 8)}) || e != api.OK {
		t.Error(left, e)
	}
}

// P4.9, P4.14: after a break anywhere in a plan, what is left of it does for the rest, and what the best plan for the rest gives is, with what was got, in each Need.
func TestRestOfPlans(t *testing.T) {
	r := rand.New(rand.NewSource(49))
	for range 60 {
		p, l := someJob(r)
		plan, e := trim.Plan(p, l)
		if e != api.OK {
			continue
		}
		for at, s := range plan {
			for done := range s.Run + 1 {
				left, e := trim.Rest(p, l, plan, at, done)
				got := trueGot(l, append(slices.Clone(plan[:at]), setup(done, s.Webs...)))
				for i, o := range l {
					if want := order(o.Width, max(0, o.Need.Low-got[i]), max(0, o.Need.High-got[i])); e != api.OK || left[i] != want {
						t.Fatal(p, l, plan, at, done, left, e)
					}
				}
				rest := slices.Clone(plan[at+1:])
				if done < s.Run {
					rest = append([]api.TrimSetup{setup(s.Run-done, s.Webs...)}, rest...)
				}
				if _, _, _, e := trim.Get(p, left, rest); e != api.OK {
					t.Fatal(p, left, rest, e)
				}
				more := trueGot(l, planOf(t, p, left))
				for i := range more {
					more[i] += got[i]
				}
				if !enough(l, more) {
					t.Fatal(p, l, plan, at, done, more)
				}
			}
		}
	}
}

// P4.10: the chapter's sheets, and sheets that are tried one by one for each length that they can have.
func TestSheets(t *testing.T) {
	if s, e := trim.Sheets(1000, 1, 10); s != to(99, 101) || e != api.OK {
		t.Error(s, e)
	}
	if s, e := trim.Sheets(100, 30, 20); s != to(25000, 37500) || e != api.OK {
		t.Error(s, e)
	}
	r := rand.New(rand.NewSource(50))
	for range 300 {
		length, run, off := pick(r, 100, 5000, some(r, 100, 5000)), pick(r, 0, 1, 30, some(r, 0, 30)), some(r, 0, 20)
		var want api.Span
		for more := -off; more <= off; more++ {
			sheets := 0
			for end := length + more; end <= run*100*1000; end += length + more {
				sheets++
			}
			if more == -off {
				want = to(sheets, sheets)
			}
			want = to(min(want.Low, sheets), max(want.High, sheets))
		}
		if s, e := trim.Sheets(length, run, off); s != want || e != api.OK {
			t.Fatal(length, run, off, s, want)
		}
	}
}
