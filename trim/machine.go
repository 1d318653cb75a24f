package trim

import (
	"iter"
	"slices"

	"testliner/api"
	"testliner/reckon"
	"testliner/span"
)

// together is how many orders can run at a time, as there is a knife across the webs for each of them.
const together = 2

// machine is a paper with the orders that are cut of it.
type machine struct {
	api.TrimPaper
	orders []api.TrimOrder
}

// webbed returns the error of webs.
func (m machine) webbed(webs []int) api.Errno {
	switch {
	case len(webs) != len(m.orders) || !span.Within(0, api.MaxTrimWebs, webs...):
		return api.ErrForm
	case !m.fits(webs):
		return api.ErrNone
	}
	return api.OK
}

// fits reports whether webs are a pattern.
func (m machine) fits(webs []int) bool {
	run := numberOf(webs, func(many int) bool { return many > 0 })
	return run <= together && span.Within(1, m.Webs, reckon.Sum(webs...)) && span.Within(m.Trim.Low, m.Trim.High, m.trim(webs))
}

// trim returns the trim of webs.
func (m machine) trim(webs []int) int {
	trim := m.Wide
	for order, many := range webs {
		trim -= many * m.orders[order].Width
	}
	return trim
}

// patterns yields all patterns in ascending order.
func (m machine) patterns() iter.Seq[[]int] { return m.begun() }

// begun yields the patterns that begin with the webs of the first orders, in ascending order.
func (m machine) begun(webs ...int) iter.Seq[[]int] {
	return func(yield func([]int) bool) {
		if len(webs) == len(m.orders) {
			if m.fits(webs) {
				yield(webs)
			}
			return
		}
		for many := range m.Webs + 1 {
			for pattern := range m.begun(slices.Concat(webs, []int{many})...) {
				if !yield(pattern) {
					return
				}
			}
		}
	}
}

// knives returns where the knives stand that cut webs.
func (m machine) knives(webs []int) []int {
	place := m.trim(webs) / 2
	places := []int{place}
	for order, many := range webs {
		for range many {
			place += m.orders[order].Width
			places = append(places, place)
		}
	}
	return places
}

// planned returns the error of a plan, and at which set-up or order it is.
func (m machine) planned(plan []api.TrimSetup) (at int, e api.Errno) {
	if len(plan) > api.MaxTrimSetups {
		return 0, api.ErrLong
	}
	for i, setup := range plan {
		if e := m.webbed(setup.Webs); e != api.OK {
			return i, e
		}
		if !span.Within(1, api.MaxTrimRun, setup.Run) {
			return i, api.ErrRange
		}
		if i > 0 && slices.Compare(plan[i-1].Webs, setup.Webs) >= 0 {
			return i, api.ErrTwice
		}
	}
	for order, amount := range m.got(plan...) {
		if need := m.orders[order].Need; !span.Within(need.Low, need.High, amount) {
			return order, api.ErrState
		}
	}
	return 0, api.OK
}

// got returns what each order gets by some set-ups.
func (m machine) got(setups ...api.TrimSetup) []int {
	got := make([]int, len(m.orders))
	for _, setup := range setups {
		for order, many := range setup.Webs {
			got[order] += many * setup.Run
		}
	}
	return got
}

// waste returns the waste of some set-ups.
func (m machine) waste(setups ...api.TrimSetup) int {
	waste := 0
	for _, setup := range setups {
		waste += m.trim(setup.Webs) * setup.Run
	}
	return waste
}

// after returns the orders with what they still need after some set-ups.
func (m machine) after(setups ...api.TrimSetup) []api.TrimOrder {
	left := slices.Clone(m.orders)
	for order, amount := range m.got(setups...) {
		need := &left[order].Need
		need.Low, need.High = max(0, need.Low-amount), max(0, need.High-amount)
	}
	return left
}

// leastSetups returns a number of set-ups that no plan is below.
func (m machine) leastSetups() int {
	needed := numberOf(m.orders, func(o api.TrimOrder) bool { return o.Need.Low > 0 })
	return reckon.Up(needed, together)
}

// leastRun returns a sum of runs that no plan is below, if the paper is wider than the least trim.
func (m machine) leastRun() int {
	needed := 0
	for _, o := range m.orders {
		needed += o.Width * o.Need.Low
	}
	return reckon.Up(needed, m.Wide-m.Trim.Low)
}

// numberOf returns how many elements of a list fulfil a condition.
func numberOf[E any](list []E, holds func(E) bool) int {
	many := 0
	for _, element := range list {
		if holds(element) {
			many++
		}
	}
	return many
}
