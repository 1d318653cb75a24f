package flow

import (
	"cmp"
	"slices"
	"sort"

	"testliner/api"
	"testliner/orders"
	"testliner/reckon"
	"testliner/sets"
	"testliner/span"
)

// shop is a shop with the jobs that pass its machines.
type shop struct {
	api.FlowShop
	jobs []api.FlowJob
}

// last is where a machine is after its last job, if it has begun with one: of which kind that was, and when it was done.
type last struct {
	begun      bool
	kind, done int
}

// course is what comes of an order: by the jobs' numbers when each starts on each machine, and by how much it is late; by how much all are late together, and their last end.
type course struct {
	starts   [][]int
	late     []int
	sum, end int
}

// course lets the jobs pass the machines by an order.
func (s shop) course(order ...int) course {
	c := course{starts: make([][]int, len(s.jobs)), late: make([]int, len(s.jobs))}
	var at [api.MaxFlowMachines]last
	for _, number := range order {
		job := s.jobs[number]
		time := job.Ready
		for m, minutes := range job.Minutes {
			if minutes > 0 {
				time = s.free(m, minutes, max(time, s.changed(at[m], job.Kind)))
				at[m] = last{true, job.Kind, time + minutes}
			}
			c.starts[number] = append(c.starts[number], time)
			time += minutes
		}
		c.late[number] = max(0, time-job.Due)
		c.sum += c.late[number]
		c.end = max(c.end, time)
	}
	return c
}

// changed returns from when on a machine is changed to a kind.
func (s shop) changed(l last, kind int) int {
	if !l.begun {
		return 0
	}
	return l.done + s.Change[l.kind][kind]
}

// free returns the first time, not before a given one, from which on a machine can work so long without standing still.
func (s shop) free(machine, minutes, time int) int {
	for {
		i := slices.IndexFunc(s.Stops, func(stop api.FlowStop) bool {
			return stop.Machine == machine && stop.From < time+minutes && time < stop.To
		})
		if i < 0 {
			return time
		}
		time = s.Stops[i].To
	}
}

// behind returns the jobs that are late, ascending.
func (c course) behind() []int {
	var behind []int
	for number, late := range c.late {
		if late > 0 {
			behind = append(behind, number)
		}
	}
	return behind
}

// best returns the smallest of the best orders, and its course.
func (s shop) best() (best []int, least course) {
	for order := range orders.Of(len(s.jobs)) {
		c := s.course(order...)
		if best == nil || cmp.Or(cmp.Compare(c.sum, least.sum), cmp.Compare(c.end, least.end)) < 0 {
			best, least = order, c
		}
	}
	return best, least
}

// inTime reports whether by some order no job is late.
func (s shop) inTime() bool {
	_, least := s.best()
	return least.sum == 0
}

// never returns the smallest list of the fewest jobs that cannot all be in time without the others, if all of them cannot.
func (s shop) never() []int {
	all := sets.Of(len(s.jobs))
	return all[slices.IndexFunc(all, func(numbers []int) bool { return !s.only(numbers...).inTime() })]
}

// only returns the shop with some of its jobs alone.
func (s shop) only(numbers ...int) shop {
	some := shop{FlowShop: s.FlowShop}
	for _, number := range numbers {
		some.jobs = append(some.jobs, s.jobs[number])
	}
	return some
}

// bound returns a number that no last end is below: some job needs so long, or the work of some machine does.
func (s shop) bound() int {
	bound := 0
	for _, job := range s.jobs {
		bound = max(bound, job.Ready+reckon.Sum(job.Minutes...))
	}
	for machine := range s.Machines {
		bound = max(bound, s.work(machine))
	}
	return bound
}

// work returns a number that no last end is below because of what a machine has to do, and what must come before and after that; 0 if it has nothing to do.
func (s shop) work(machine int) int {
	var before, on, after []int
	for _, job := range s.jobs {
		if job.Minutes[machine] > 0 {
			before = append(before, job.Ready+reckon.Sum(job.Minutes[:machine]...))
			on = append(on, job.Minutes[machine])
			after = append(after, reckon.Sum(job.Minutes[machine+1:]...))
		}
	}
	if len(on) == 0 {
		return 0
	}
	return slices.Min(before) + reckon.Sum(on...) + slices.Min(after)
}

// waits returns the times at which each job waits before a machine: none if it starts there when it comes, as one that passes it by does.
func (s shop) waits(machine int, starts ...[]int) []api.Span {
	var waits []api.Span
	for number, job := range s.jobs {
		comes := job.Ready
		if machine > 0 {
			comes = starts[number][machine-1] + job.Minutes[machine-1]
		}
		waits = append(waits, api.Span{Low: comes, High: starts[number][machine] - 1})
	}
	return waits
}

// together returns how many spans have a number in common at most. Where the most have one, some span begins.
func together(spans ...api.Span) int {
	most := 0
	for _, begun := range spans {
		many := 0
		for _, s := range spans {
			if span.Within(s.Low, s.High, begun.Low) {
				many++
			}
		}
		most = max(most, many)
	}
	return most
}

// slack returns by how much later a job can come so that by an order no job is late. The later it comes, the later is each job.
func (s shop) slack(job int, order ...int) int {
	return sort.Search(api.MaxFlowSlack, func(late int) bool {
		return s.later(job, late+1).course(order...).sum > 0
	})
}

// later returns the shop with a job that comes later.
func (s shop) later(job, by int) shop {
	s.jobs = slices.Clone(s.jobs)
	s.jobs[job].Ready += by
	return s
}
