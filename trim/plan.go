package trim

import (
	"cmp"
	"slices"

	"testliner/api"
	"testliner/reckon"
	"testliner/sets"
)

// needs are what each order still needs; nothing where there is no order. The least need is not above 0 for orders that have enough.
type needs [api.MaxTrimOrders]api.Span

// wasteless is more than the waste of any plan.
const wasteless = api.MaxTrimSetups*api.MaxTrimRun*api.MaxTrimWide + 1

// plan returns the best plan that does, and its waste.
func (m machine) plan() (plan []api.TrimSetup, waste int, found bool) {
	var still needs
	for order, o := range m.orders {
		still[order] = o.Need
	}
	patterns := slices.Collect(m.patterns())
	for setups := range api.MaxTrimSetups + 1 {
		if plan, waste, found := m.best(patterns, still, setups, wasteless); found {
			return plan, waste, true
		}
	}
	return nil, 0, false
}

// best returns the best plan of so many set-ups, with some patterns, that gives orders what they still need with less waste than a limit, and its waste.
func (m machine) best(patterns [][]int, still needs, setups, limit int) (plan []api.TrimSetup, waste int, found bool) {
	if still.open() > together*setups {
		return nil, 0, false
	}
	if setups == 0 {
		return nil, 0, true
	}
	for place, webs := range patterns {
		runs := still.runs(webs, setups == 1)
		for run := runs.Low; run <= runs.High; run++ {
			first := api.TrimSetup{Webs: webs, Run: run}
			lost := m.waste(first)
			if lost >= limit {
				break
			}
			// Plans come in ascending order, so of those with the same waste the first one stays.
			if rest, more, does := m.best(patterns[place+1:], still.less(first), setups-1, limit-lost); does {
				limit = lost + more
				plan, waste, found = slices.Concat([]api.TrimSetup{first}, rest), limit, true
			}
		}
	}
	return plan, waste, found
}

// open returns how many orders still need something.
func (n needs) open() int {
	return numberOf(n[:], func(need api.Span) bool { return need.Low > 0 })
}

// runs returns which runs of webs can be in the best plan: those that give no order too much, and of the last set-up only the shortest one that gives all orders enough, as a longer one is worse.
func (n needs) runs(webs []int, last bool) api.Span {
	runs := api.Span{Low: 1, High: api.MaxTrimRun}
	for order, many := range webs {
		need := n[order]
		if many > 0 {
			runs.High = min(runs.High, need.High/many)
		}
		if !last || need.Low <= 0 {
			continue
		}
		if many == 0 {
			return api.Span{Low: 1, High: 0}
		}
		runs.Low = max(runs.Low, reckon.Up(need.Low, many))
	}
	if last {
		runs.High = min(runs.High, runs.Low)
	}
	return runs
}

// less returns what orders still need after a set-up.
func (n needs) less(setup api.TrimSetup) needs {
	for order, many := range setup.Webs {
		n[order].Low -= many * setup.Run
		n[order].High -= many * setup.Run
	}
	return n
}

// choose returns the first of the papers whose best plans have the fewest set-ups, and of these the least waste.
func choose(papers []api.TrimPaper, l []api.TrimOrder) (best int, found bool) {
	var setups, least int
	for number, p := range papers {
		plan, waste, does := machine{p, l}.plan()
		if does && (!found || cmp.Or(cmp.Compare(len(plan), setups), cmp.Compare(waste, least)) < 0) {
			best, setups, least, found = number, len(plan), waste, true
		}
	}
	return best, found
}

// does reports whether some plan does.
func (m machine) does() bool {
	_, _, found := m.plan()
	return found
}

// against returns the fewest orders that no plan does together, if none does for all of them.
func (m machine) against() []int {
	all := sets.Of(len(m.orders))
	return all[slices.IndexFunc(all, func(numbers []int) bool { return !m.only(numbers...).does() })]
}

// only returns the machine with some of its orders.
func (m machine) only(numbers ...int) machine {
	some := machine{TrimPaper: m.TrimPaper}
	for _, order := range numbers {
		some.orders = append(some.orders, m.orders[order])
	}
	return some
}
