package flow_test

import (
	"math"
	"reflect"
	"slices"
	"testing"

	"testliner/api"
	"testliner/flow"
)

// input is an argument for all functions.
type input struct {
	s     api.FlowShop
	jobs  []api.FlowJob
	order []int
	stop  api.FlowStop
	job   int
}

// good returns arguments that are valid for all functions but Never (for which the jobs can be in time), good but for what change does.
func good(change func(i *input)) input {
	i := input{s: chapterShop(stop(0, 200, 300)), jobs: chapterJobs(100), order: list(0, 1, 2), stop: stop(1, 60, 70)}
	change(&i)
	return i
}

// wrong returns arguments of which just the shop and the jobs are valid, but for what change does.
func wrong(change func(i *input)) input {
	i := good(change)
	i.order, i.stop, i.job = list(9), stop(9, 9, 9), -1
	return i
}

// errorsWith returns the errors of all functions, and checks that all else that they return is zero if there is one.
func errorsWith(t *testing.T, i input) map[string]api.Errno {
	t.Helper()
	got := map[string]api.Errno{}
	add := func(name string, e api.Errno, results ...any) {
		got[name] = e
		for _, y := range results {
			v := reflect.ValueOf(y)
			if e != api.OK && !v.IsZero() && !(v.Kind() == reflect.Slice && v.Len() == 0) {
				t.Errorf("%s: %d with %v", name, e, y)
			}
		}
	}
	add("Check", flow.Check(i.s, i.jobs))
	starts, e := flow.Starts(i.s, i.jobs, i.order)
	add("Starts", e, starts)
	late, sum, end, e := flow.Late(i.s, i.jobs, i.order)
	add("Late", e, late, sum, end)
	best, e := flow.Best(i.s, i.jobs)
	add("Best", e, best)
	bound, e := flow.Bound(i.s, i.jobs)
	add("Bound", e, bound)
	never, e := flow.Never(i.s, i.jobs)
	add("Never", e, never)
	wait, e := flow.Wait(i.s, i.jobs, i.order)
	add("Wait", e, wait)
	broken, e := flow.Break(i.s, i.jobs, i.order, i.stop)
	add("Break", e, broken)
	slack, e := flow.Slack(i.s, i.jobs, i.order, i.job)
	add("Slack", e, slack)
	return got
}

// expect checks that some functions have an error.
func expect(t *testing.T, name string, i input, e api.Errno, functions ...string) {
	t.Helper()
	got := errorsWith(t, i)
	for _, f := range functions {
		if got[f] != e {
			t.Errorf("%s: %s: %d, want %d", name, f, got[f], e)
		}
	}
}

// withOrder are the functions that have an order, and without the others.
func withOrder() []string { return list("Starts", "Late", "Wait", "Break", "Slack") }

func without() []string { return list("Check", "Best", "Bound") }

// refused checks that all functions have an error of a shop and jobs, whatever else is wrong; or that it is not there.
func refused(t *testing.T, name string, e api.Errno, change func(i *input)) {
	t.Helper()
	if e == api.OK {
		expect(t, name, wrong(change), e, without()...)
		expect(t, name, wrong(change), api.ErrTwice, withOrder()...)
		return
	}
	expect(t, name, wrong(change), e, append(append(without(), withOrder()...), "Never")...)
	expect(t, name, good(change), e, append(append(without(), withOrder()...), "Never")...)
}

// P10.1: the machines, and how long they are changed.
func TestShopErrors(t *testing.T) {
	for machines, e := range map[int]api.Errno{math.MinInt: api.ErrArg, -1: api.ErrArg, 0: api.ErrArg, 1: api.OK, 2: api.OK, 3: api.OK, 4: api.OK, 5: api.ErrArg, math.MaxInt: api.ErrArg} {
		refused(t, "machines", e, func(i *input) { i.s.Machines, i.s.Stops, i.jobs = machines, nil, nil })
	}
	for number, e := range map[int]api.Errno{math.MinInt: api.ErrArg, -1: api.ErrArg, 0: api.OK, 1: api.OK, 499: api.OK, 500: api.OK, 501: api.ErrArg, math.MaxInt: api.ErrArg} {
		for from := range 2 {
			for to := range 2 {
				refused(t, "a change", e, func(i *input) { i.s.Change[from][to] = number })
			}
		}
	}
	for kinds := range 7 {
		for numbers := range 7 {
			e := api.ErrArg
			if kinds == numbers && kinds >= 1 && kinds <= 4 {
				e = api.OK
			}
			refused(t, "kinds", e, func(i *input) { i.s.Change, i.jobs = slices.Repeat(list(make([]int, numbers)), kinds), nil })
		}
	}
	for bad, change := range [][][]int{
		{nil, {0, 0}}, {{0, 0}, nil}, {{0, 0}, {0}}, {{0}, {0, 0}}, {{0, 0}, {0, 0, 0}}, {{0, 0, 0}, {0, 0}}, {{}, {}}, {{0}, {0}},
	} {
		refused(t, "a list of changes", api.ErrArg, func(i *input) { i.s.Change = change })
		refused(t, "with all else wrong, too", api.ErrArg, func(i *input) {
			i.s.Change, i.s.Stops, i.jobs = change, make([]api.FlowStop, 10+bad), make([]api.FlowJob, 7)
		})
	}
}

// P10.1: the stops.
func TestStopErrors(t *testing.T) {
	for many, e := range map[int]api.Errno{0: api.OK, 1: api.OK, 10: api.OK, 11: api.ErrLong, 12: api.ErrLong, 99: api.ErrLong} {
		refused(t, "many stops", e, func(i *input) { i.s.Stops = slices.Repeat(list(stop(1, 5, 9)), many) })
		if e != api.OK {
			refused(t, "many bad stops", e, func(i *input) { i.s.Stops, i.jobs = make([]api.FlowStop, many), make([]api.FlowJob, 7) })
		}
	}
	for x, e := range stopErrors() {
		refused(t, "a stop", e, func(i *input) { i.s.Stops = list(x) })
		refused(t, "the last stop", e, func(i *input) { i.s.Stops = append(slices.Repeat(list(stop(1, 5, 9)), 9), x) })
		if e != api.OK {
			refused(t, "a stop and seven jobs", e, func(i *input) { i.s.Stops, i.jobs = list(x, stop(0, 1, 2)), make([]api.FlowJob, 7) })
		}
	}
	refused(t, "a stop of the last machine", api.OK, func(i *input) { i.s, i.jobs = plainShop(4, stop(3, 0, 1)), nil })
}

// stopErrors are stops of a shop with two machines.
func stopErrors() map[api.FlowStop]api.Errno {
	return map[api.FlowStop]api.Errno{
		stop(0, 0, 1):                         api.OK,
		stop(1, 0, 100000):                    api.OK,
		stop(1, 99999, 100000):                api.OK,
		stop(0, 7, 8):                         api.OK,
		stop(-1, 0, 1):                        api.ErrRange,
		stop(2, 0, 1):                         api.ErrRange,
		stop(3, 0, 1):                         api.ErrRange,
		stop(math.MinInt, 0, 1):               api.ErrRange,
		stop(math.MaxInt, 0, 1):               api.ErrRange,
		stop(0, -1, 1):                        api.ErrRange,
		stop(0, math.MinInt, 1):               api.ErrRange,
		stop(0, 0, 100001):                    api.ErrRange,
		stop(0, 100000, 100001):               api.ErrRange,
		stop(0, 100001, 100002):               api.ErrRange,
		stop(0, 0, math.MaxInt):               api.ErrRange,
		stop(0, math.MinInt, math.MaxInt):     api.ErrRange,
		stop(0, 0, 0):                         api.ErrRange,
		stop(0, 100000, 100000):               api.ErrRange,
		stop(0, 9, 8):                         api.ErrRange,
		stop(1, 100000, 0):                    api.ErrRange,
		stop(0, -2, -1):                       api.ErrRange,
		stop(0, math.MaxInt-1, math.MaxInt):   api.ErrRange,
		stop(1, math.MaxInt, math.MinInt):     api.ErrRange,
		stop(math.MinInt, math.MinInt, -1000): api.ErrRange,
	}
}

// P10.1: the jobs.
func TestJobErrors(t *testing.T) {
	for many, e := range map[int]api.Errno{0: api.OK, 1: api.OK, 6: api.OK, 7: api.ErrFull, 8: api.ErrFull, 99: api.ErrFull} {
		refused(t, "many jobs", e, func(i *input) { i.jobs = slices.Repeat(list(job(1, 0, 0, 0, 0)), many) })
		if many > 0 && many < 7 {
			e = api.ErrForm
		}
		refused(t, "many bad jobs", e, func(i *input) { i.jobs = make([]api.FlowJob, many) })
	}
	for name, c := range map[string]struct {
		j api.FlowJob
		e api.Errno
	}{
		"the least numbers":     {job(0, 0, 0, 0, 0), api.OK},
		"the greatest numbers":  {job(1, 100000, 100000, 2000, 2000), api.OK},
		"due before it is come": {job(0, 100000, 0, 1, 1), api.OK},
		"a kind of -1":          {job(-1, 0, 0, 1, 1), api.ErrForm},
		"a kind of 2":           {job(2, 0, 0, 1, 1), api.ErrForm},
		"the greatest kind":     {job(math.MaxInt, 0, 0, 1, 1), api.ErrForm},
		"the least kind":        {job(math.MinInt, 0, 0, 1, 1), api.ErrForm},
		"Ready -1":              {job(0, -1, 0, 1, 1), api.ErrForm},
		"Ready 100001":          {job(0, 100001, 0, 1, 1), api.ErrForm},
		"the greatest Ready":    {job(0, math.MaxInt, 0, 1, 1), api.ErrForm},
		"Due -1":                {job(0, 0, -1, 1, 1), api.ErrForm},
		"Due 100001":            {job(0, 0, 100001, 1, 1), api.ErrForm},
		"the least Due":         {job(0, 0, math.MinInt, 1, 1), api.ErrForm},
		"no minutes":            {job(0, 0, 0), api.ErrForm},
		"minutes of one":        {job(0, 0, 0, 1), api.ErrForm},
		"minutes of three":      {job(0, 0, 0, 1, 1, 0), api.ErrForm},
		"minutes of -1":         {job(0, 0, 0, -1, 1), api.ErrForm},
		"-1 at the end":         {job(0, 0, 0, 1, -1), api.ErrForm},
		"minutes of 2001":       {job(0, 0, 0, 2001, 1), api.ErrForm},
		"2001 at the end":       {job(0, 0, 0, 1, 2001), api.ErrForm},
		"the most minutes":      {job(0, 0, 0, 1, math.MaxInt), api.ErrForm},
		"the least minutes":     {job(0, 0, 0, math.MinInt, 0), api.ErrForm},
		"no job at all":         {api.FlowJob{}, api.ErrForm},
	} {
		fine := job(1, 5, 5, 5, 5)
		for _, jobs := range list(list(c.j), list(c.j, fine), list(fine, c.j), append(slices.Repeat(list(fine), 5), c.j)) {
			refused(t, name, c.e, func(i *input) { i.jobs = jobs })
		}
	}
	for kinds := 1; kinds <= 4; kinds++ {
		change := slices.Repeat(list(make([]int, kinds)), kinds)
		refused(t, "the last kind", api.OK, func(i *input) { i.s.Change, i.jobs = change, list(job(kinds-1, 0, 0, 1, 1)) })
		refused(t, "one kind more", api.ErrForm, func(i *input) { i.s.Change, i.jobs = change, list(job(kinds, 0, 0, 1, 1)) })
	}
}

// P10.1: what is no order of the jobs, before what else is wrong.
func TestOrderErrors(t *testing.T) {
	for _, order := range list(
		nil, []int{}, list(0), list(0, 1), list(0, 1, 1), list(1, 1, 1), list(0, 1, 3), list(1, 2, 3), list(-1, 0, 1), list(0, 1, 2, 0), list(0, 1, 2, 3), list(0, 0, 1, 2),
		list(0, 1, math.MaxInt), list(math.MinInt, 1, 2), make([]int, 3), make([]int, 999),
	) {
		expect(t, "no order", good(func(i *input) { i.order = order }), api.ErrTwice, withOrder()...)
		expect(t, "no order", good(func(i *input) { i.order = order }), api.OK, without()...)
		late := good(func(i *input) {
			i.order, i.s.Stops, i.stop, i.job, i.jobs[0].Due = order, slices.Repeat(list(stop(0, 1, 2)), 10), stop(9, 9, 9), -1, 0
		})
		expect(t, "no order, and all else", late, api.ErrTwice, withOrder()...)
		late.s.Stops = nil
		expect(t, "no order, and a bad stop", late, api.ErrTwice, withOrder()...)
	}
	eachOrder(3, nil, func(order []int) {
		expect(t, "an order", good(func(i *input) { i.order, i.jobs[0].Due, i.jobs[1].Due, i.jobs[2].Due = order, 999, 999, 999 }), api.OK, withOrder()...)
	})
	none := func(i *input) { i.jobs, i.order = nil, nil }
	expect(t, "no jobs", good(none), api.OK, append(without(), "Starts", "Late", "Wait", "Break")...)
	expect(t, "no jobs", good(none), api.ErrNone, "Never", "Slack")
	for _, order := range list(list(0), list(-1), list(0, 1)) {
		expect(t, "no jobs with an order", good(func(i *input) { i.jobs, i.order = nil, order }), api.ErrTwice, withOrder()...)
	}
}

// P10.8: what is wrong with one stop more.
func TestBreakErrors(t *testing.T) {
	for x, e := range stopErrors() {
		for _, many := range list(0, 1, 8, 9) {
			expect(t, "one stop more", good(func(i *input) { i.s.Stops, i.stop = slices.Repeat(list(stop(1, 5, 9)), many), x }), e, "Break")
		}
		expect(t, "an eleventh stop", good(func(i *input) { i.s.Stops, i.stop = slices.Repeat(list(stop(1, 5, 9)), 10), x }), api.ErrLong, "Break")
	}
}

// P10.9: what is no number of a job, before jobs that are late.
func TestSlackErrors(t *testing.T) {
	for number, e := range map[int]api.Errno{math.MinInt: api.ErrNone, -1: api.ErrNone, 0: api.OK, 1: api.OK, 2: api.OK, 3: api.ErrNone, 4: api.ErrNone, math.MaxInt: api.ErrNone} {
		expect(t, "a job", good(func(i *input) { i.job = number }), e, "Slack")
		if e == api.OK {
			e = api.ErrState
		}
		for late := range 3 {
			expect(t, "a late job", good(func(i *input) { i.job, i.jobs[late].Due = number, 9 }), e, "Slack")
		}
	}
	expect(t, "late by one minute", good(func(i *input) { i.jobs = chapterJobs(99) }), api.ErrState, "Slack")
	expect(t, "late by the other order", good(func(i *input) { i.order = list(1, 0, 2) }), api.ErrState, "Slack")
}

// R3: nil lists and empty ones are the same; no jobs are an order without an end.
func TestEmpty(t *testing.T) {
	for _, machines := range list(1, 4) {
		for _, jobs := range list(nil, []api.FlowJob{}) {
			for _, order := range list(nil, []int{}) {
				s := plainShop(machines, []api.FlowStop{}...)
				starts, e := flow.Starts(s, jobs, order)
				late, sum, end, f := flow.Late(s, jobs, order)
				best, g := flow.Best(s, jobs)
				bound, h := flow.Bound(s, jobs)
				wait, j := flow.Wait(s, jobs, order)
				broken, k := flow.Break(s, jobs, order, stop(0, 0, 9))
				if len(starts)+late+sum+end+len(best)+bound+len(broken) != 0 || e+f+g+h+j+k != api.OK || !slices.Equal(wait, make([]int, machines)) {
					t.Error(starts, late, sum, end, best, bound, wait, broken, e, f, g, h, j, k)
				}
				if never, e := flow.Never(s, jobs); len(never) > 0 || e != api.ErrNone {
					t.Error(never, e)
				}
			}
		}
	}
}

// spare returns a list with spare room, full the list with that room.
func spare[E any](list []E) []E { return append(make([]E, 0, 20), list...) }

func full[E any](list []E) []E { return list[:cap(list)] }

// spareInput returns valid arguments in which all lists have spare room, fullInput arguments with that room.
func spareInput(due int) input {
	return good(func(i *input) {
		i.jobs = spare(chapterJobs(due))
		for number := range i.jobs {
			i.jobs[number].Minutes = spare(i.jobs[number].Minutes)
		}
		i.s.Stops, i.s.Change, i.order = spare(i.s.Stops), spare(list(spare(list(0, 10)), spare(list(20, 0)))), spare(i.order)
	})
}

func fullInput(i input) input {
	i.jobs = slices.Clone(full(i.jobs))
	for number := range i.jobs {
		i.jobs[number].Minutes = full(i.jobs[number].Minutes)
	}
	i.s.Change = slices.Clone(full(i.s.Change))
	for kind := range i.s.Change {
		i.s.Change[kind] = full(i.s.Change[kind])
	}
	i.s.Stops, i.order = full(i.s.Stops), full(i.order)
	return i
}

// P2, R4: no argument is changed, nor the spare room behind it; results are new memory, and equal for equal arguments.
func TestMemory(t *testing.T) {
	for _, due := range list(90, 100) {
		i, before := spareInput(due), spareInput(due)
		for range 2 {
			errorsWith(t, i)
			starts, e := flow.Starts(i.s, i.jobs, i.order)
			best, f := flow.Best(i.s, i.jobs)
			wait, g := flow.Wait(i.s, i.jobs, i.order)
			broken, h := flow.Break(i.s, i.jobs, i.order, i.stop)
			late := list(0)
			if due == 100 {
				late = list(0, 1)
			}
			if !slices.Equal(best, list(0, 1, 2)) || !slices.Equal(wait, list(2, 1)) || !slices.Equal(broken, late) || e+f+g+h != api.OK {
				t.Error(best, wait, broken, e, f, g, h)
			}
			never, e := flow.Never(i.s, i.jobs)
			if due == 90 && (!slices.Equal(never, list(0, 1)) || e != api.OK) || due == 100 && e != api.ErrNone {
				t.Error(never, e)
			}
			// What is written over here must be seen nowhere else, neither in arguments nor in other parts of results.
			for number, want := range list(list(0, 30), list(40, 80), list(80, 90)) {
				if !slices.Equal(starts[number], want) {
					t.Error(number, starts[number])
				}
				clear(full(starts[number]))
			}
			clear(full(starts))
			for _, numbers := range list(best, wait, broken, never) {
				clear(full(numbers))
			}
			if !reflect.DeepEqual(fullInput(i), fullInput(before)) {
				t.Error(i)
			}
		}
	}
}

// P1: with the least and the greatest numbers, and none at all, each function ends.
func TestAnyArguments(t *testing.T) {
	numbers := list(math.MinInt, -1, 0, 1, 2, 4, 100000, math.MaxInt)
	for _, a := range numbers {
		for _, b := range numbers {
			for _, i := range list(
				input{s: api.FlowShop{Machines: a, Change: list(list(b))}, jobs: list(job(a, b, a, b)), order: list(a), stop: stop(a, b, a), job: b},
				input{s: chapterShop(stop(a, b, a)), jobs: chapterJobs(90), order: list(a, b, 0), stop: stop(b, a, b), job: a},
				input{s: chapterShop(stop(1, a, b)), jobs: chapterJobs(100), order: list(2, 0, 1), stop: stop(1, b, a), job: b},
				input{s: chapterShop(), jobs: list(job(1, a, b, 5, 5), job(0, b, a, 2000, 1)), order: list(1, 0), stop: stop(a, b, 100000), job: 1},
				input{s: plainShop(1), jobs: list(job(0, 0, 0, a), job(0, 100000, 100000, b)), order: list(1, 0), stop: stop(0, a, b), job: 1},
				input{s: greatestShop(), jobs: greatestJobs(), order: list(5, 4, 3, 2, 1, 0), stop: stop(a, a, b), job: b},
			) {
				errorsWith(t, i)
			}
		}
	}
}
