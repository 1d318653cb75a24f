package trim_test

import (
	"cmp"
	"math/rand"
	"slices"
	"testing"

	"testliner/api"
	"testliner/trim"
)

// to returns a span, n a list, order an order, setup a set-up.
func to(low, high int) api.Span { return api.Span{Low: low, High: high} }

func n(l ...int) []int { return l }

func order(width, low, high int) api.TrimOrder {
	return api.TrimOrder{Width: width, Need: to(low, high)}
}

func setup(run int, webs ...int) api.TrimSetup { return api.TrimSetup{Webs: webs, Run: run} }

// chapterPaper returns the paper of the chapter's examples, with a greatest trim, chapterOrders their orders, chapterPlan the plan of the third example.
func chapterPaper(most int) api.TrimPaper {
	return api.TrimPaper{Wide: 2500, Trim: to(20, most), Webs: 4}
}

func chapterOrders() []api.TrimOrder {
	return []api.TrimOrder{order(800, 10, 12), order(700, 8, 9), order(1200, 4, 4)}
}

func chapterPlan() []api.TrimSetup {
	return []api.TrimSetup{setup(2, 0, 0, 2), setup(1, 0, 3, 0), setup(5, 2, 1, 0)}
}

// some returns a number from low to high, someSpan a span in them that is at most so wide.
func some(r *rand.Rand, low, high int) int { return low + r.Intn(high-low+1) }

func someSpan(r *rand.Rand, low, high, wide int) api.Span {
	a := some(r, low, high)
	return to(a, min(high, a+r.Intn(wide+1)))
}

// pick returns one of some numbers.
func pick(r *rand.Rand, numbers ...int) int { return numbers[r.Intn(len(numbers))] }

// somePaper returns a paper of about 100, someOrders orders of which some lie side by side on it.
func somePaper(r *rand.Rand) api.TrimPaper {
	return api.TrimPaper{Wide: some(r, 90, 110), Trim: someSpan(r, 0, 20, 30), Webs: some(r, 1, 4)}
}

func someOrders(r *rand.Rand, most, need int) []api.TrimOrder {
	l := make([]api.TrimOrder, r.Intn(most+1))
	for i := range l {
		l[i] = api.TrimOrder{Width: some(r, 20, 60), Need: someSpan(r, 0, need, pick(r, 0, 1, 3, need))}
	}
	return l
}

// someJob returns a paper and orders for which the best plan has some set-ups, as they come from a plan.
func someJob(r *rand.Rand) (api.TrimPaper, []api.TrimOrder) {
	for {
		p, l := somePaper(r), someOrders(r, 4, 40)
		patterns := truePatterns(p, l)
		if len(patterns) == 0 {
			continue
		}
		got := make([]int, len(l))
		for range 3 {
			run := some(r, 1, 8)
			for i, many := range patterns[r.Intn(len(patterns))] {
				got[i] += many * run
			}
		}
		for i := range l {
			low := max(0, got[i]-pick(r, 0, 0, 1, 3))
			l[i].Need = to(low, max(low, min(100, got[i]+pick(r, 0, 0, 1, 3))))
		}
		return p, l
	}
}

// sumOf returns the sum of numbers.
func sumOf(numbers []int) int {
	all := 0
	for _, x := range numbers {
		all += x
	}
	return all
}

// trueTrim returns what the chapter says of the trim of webs.
func trueTrim(p api.TrimPaper, l []api.TrimOrder, webs []int) int {
	trim := p.Wide
	for i, o := range l {
		for range webs[i] {
			trim -= o.Width
		}
	}
	return trim
}

// isPattern reports what the chapter says of patterns.
func isPattern(p api.TrimPaper, l []api.TrimOrder, webs []int) bool {
	orders := 0
	for _, many := range webs {
		orders += min(1, many)
	}
	trim := trueTrim(p, l, webs)
	return sumOf(webs) >= 1 && sumOf(webs) <= p.Webs && orders <= 2 && trim >= p.Trim.Low && trim <= p.Trim.High
}

// eachWebs calls see with all lists of so many numbers from 0 to 4, in ascending order.
func eachWebs(orders int, see func(webs []int)) {
	all := 1
	for range orders {
		all *= 5
	}
	for code := range all {
		webs := make([]int, orders)
		for i := orders - 1; i >= 0; i-- {
			webs[i] = code % 5
			code /= 5
		}
		see(webs)
	}
}

// truePatterns returns all patterns by trying all webs.
func truePatterns(p api.TrimPaper, l []api.TrimOrder) [][]int {
	var all [][]int
	eachWebs(len(l), func(webs []int) {
		if isPattern(p, l, webs) {
			all = append(all, webs)
		}
	})
	return all
}

// trueGot returns what each order gets, trueWaste the waste.
func trueGot(l []api.TrimOrder, plan []api.TrimSetup) []int {
	got := make([]int, len(l))
	for i := range l {
		for _, s := range plan {
			got[i] += s.Webs[i] * s.Run
		}
	}
	return got
}

func trueWaste(p api.TrimPaper, l []api.TrimOrder, plan []api.TrimSetup) int {
	waste := 0
	for _, s := range plan {
		waste += trueTrim(p, l, s.Webs) * s.Run
	}
	return waste
}

// enough reports whether each amount is in its Need.
func enough(l []api.TrimOrder, got []int) bool {
	for i, o := range l {
		if got[i] < o.Need.Low || got[i] > o.Need.High {
			return false
		}
	}
	return true
}

// compareSetups compares lists of set-ups, comparePlans plans: the better one is smaller.
func compareSetups(a, b []api.TrimSetup) int {
	return slices.CompareFunc(a, b, func(x, y api.TrimSetup) int {
		return cmp.Or(slices.Compare(x.Webs, y.Webs), cmp.Compare(x.Run, y.Run))
	})
}

func comparePlans(p api.TrimPaper, l []api.TrimOrder, a, b []api.TrimSetup) int {
	return cmp.Or(cmp.Compare(len(a), len(b)), cmp.Compare(trueWaste(p, l, a), trueWaste(p, l, b)), compareSetups(a, b))
}

// same reports whether plans are equal.
func same(a, b []api.TrimSetup) bool { return len(a) == len(b) && compareSetups(a, b) == 0 }

// eachPlan calls see with all plans that do: each pattern in turn is left out, or has each run that gives no order too much.
func eachPlan(p api.TrimPaper, l []api.TrimOrder, see func(plan []api.TrimSetup)) {
	patterns := truePatterns(p, l)
	var fill func(from int, plan []api.TrimSetup)
	fill = func(from int, plan []api.TrimSetup) {
		got := trueGot(l, plan)
		for i, o := range l {
			if got[i] > o.Need.High {
				return
			}
		}
		if enough(l, got) {
			see(plan)
		}
		if len(plan) == 3 {
			return
		}
		for i := from; i < len(patterns); i++ {
			for run := 1; run <= 30; run++ {
				fill(i+1, append(slices.Clone(plan), setup(run, patterns[i]...)))
			}
		}
	}
	fill(0, nil)
}

// truePlan returns the best of all plans that do.
func truePlan(p api.TrimPaper, l []api.TrimOrder) (best []api.TrimSetup, found bool) {
	eachPlan(p, l, func(plan []api.TrimSetup) {
		if !found || comparePlans(p, l, plan, best) < 0 {
			best, found = slices.Clone(plan), true
		}
	})
	return best, found
}

// has reports whether Plan finds a plan for some orders, the others left out; that it finds one if there is one has tests of its own.
func has(p api.TrimPaper, l []api.TrimOrder, numbers []int) bool {
	var some []api.TrimOrder
	for _, i := range numbers {
		some = append(some, l[i])
	}
	_, e := trim.Plan(p, some)
	return e == api.OK
}

// chosen returns the numbers of a set as bits.
func chosen(set int) []int {
	var list []int
	for i := 0; 1<<i <= set; i++ {
		if set>>i&1 == 1 {
			list = append(list, i)
		}
	}
	return list
}

// planOf returns the best plan, of orders for which there must be one.
func planOf(t *testing.T, p api.TrimPaper, l []api.TrimOrder) []api.TrimSetup {
	t.Helper()
	plan, e := trim.Plan(p, l)
	if e != api.OK {
		t.Fatal(p, l, e)
	}
	return plan
}
