package flow_test

import (
	"math/rand"
	"slices"
	"testing"

	"testliner/api"
	"testliner/flow"
)

// apart are a shop and jobs of which the first and the last cannot both be in time, but all three can: the change by way of the second one is shorter.
func apart() (api.FlowShop, []api.FlowJob) {
	s := api.FlowShop{Machines: 1, Change: list(list(0, 5, 50), list(50, 0, 5), list(50, 50, 0))}
	return s, list(job(0, 0, 10, 10), job(1, 0, 99, 1), job(2, 0, 30, 9))
}

// P10.4, P10.5, P10.6: the chapter's examples, and the edges.
func TestBestExamples(t *testing.T) {
	detour, detours := apart()
	for name, c := range map[string]struct {
		s           api.FlowShop
		jobs        []api.FlowJob
		best, never []int
		bound       int
	}{
		"the chapter's":       {chapterShop(), chapterJobs(90), list(0, 1, 2), list(0, 1), 80},
		"the second due 100":  {chapterShop(), chapterJobs(100), list(0, 1, 2), nil, 80},
		"one in time":         {plainShop(1), list(job(0, 5, 15, 10)), list(0), nil, 15},
		"one late":            {plainShop(1), list(job(0, 5, 14, 10)), list(0), list(0), 15},
		"late before it is":   {plainShop(1), list(job(0, 5, 4, 0)), list(0), list(0), 5},
		"a stop is no bound":  {plainShop(1, stop(0, 0, 9)), list(job(0, 5, 18, 10)), list(0), list(0), 15},
		"all alike":           {plainShop(1), slices.Repeat(list(job(0, 0, 60, 10)), 6), list(0, 1, 2, 3, 4, 5), nil, 60},
		"all alike, one less": {plainShop(1), slices.Repeat(list(job(0, 0, 59, 10)), 6), list(0, 1, 2, 3, 4, 5), list(0, 1, 2, 3, 4, 5), 60},
		"five at most":        {plainShop(1), slices.Repeat(list(job(0, 0, 49, 10)), 6), list(0, 1, 2, 3, 4, 5), list(0, 1, 2, 3, 4), 60},
		"backward":            {plainShop(1), list(job(0, 0, 30, 10), job(0, 0, 20, 10), job(0, 0, 10, 10)), list(2, 1, 0), nil, 30},
		// The sum before the last end, and that before the smallest list.
		"a greater end":  {plainShop(1), list(job(0, 0, 99, 10), job(0, 8, 18, 10)), list(1, 0), nil, 20},
		"a smaller end":  {plainShop(1), list(job(0, 8, 99, 10), job(0, 0, 99, 10)), list(1, 0), nil, 20},
		"a smaller list": {plainShop(1), list(job(0, 0, 99, 10), job(0, 0, 99, 5)), list(0, 1), nil, 15},
		"many a bit late": {plainShop(1), list(job(0, 0, 9, 10), job(0, 0, 10, 1), job(0, 0, 11, 1)), list(0, 1, 2),
			list(0), 12},
		// Which jobs: the fewest before the smallest list.
		"just the last":    {plainShop(1), list(job(0, 0, 10, 10), job(0, 0, 10, 10), job(0, 0, 8, 9)), list(2, 0, 1), list(2), 29},
		"two pairs":        {plainShop(2), list(job(0, 0, 9, 9, 0), job(0, 0, 5, 0, 5), job(0, 0, 9, 9, 0), job(0, 0, 5, 0, 5)), list(0, 1, 2, 3), list(0, 2), 18},
		"not the first":    {plainShop(2), list(job(0, 0, 99, 9, 0), job(0, 0, 5, 0, 5), job(0, 0, 8, 5, 0), job(0, 0, 5, 0, 5)), list(1, 2, 0, 3), list(1, 3), 14},
		"by another kind":  {detour, detours, list(0, 1, 2), nil, 20},
		"without its help": {detour, list(detours[0], detours[2]), list(0, 1), list(0, 1), 19},
		// Each of the bounds: of a job, of a machine, with what is before and behind it, of those that need it.
		"a job's":            {plainShop(3), list(job(0, 7, 99, 1, 2, 3), job(0, 0, 99, 1, 1, 1)), list(1, 0), nil, 13},
		"the first's":        {plainShop(2), list(job(0, 7, 99, 5, 3), job(0, 8, 99, 5, 2)), list(0, 1), nil, 19},
		"the last's":         {plainShop(2), list(job(0, 7, 99, 3, 5), job(0, 8, 99, 1, 5)), list(1, 0), nil, 19},
		"the middle's":       {plainShop(3), list(job(0, 1, 99, 2, 9, 7), job(0, 3, 99, 1, 9, 4)), list(0, 1), nil, 25},
		"least of two jobs":  {plainShop(3), list(job(0, 0, 99, 2, 9, 7), job(0, 0, 99, 5, 9, 4)), list(0, 1), nil, 24},
		"not of one past it": {plainShop(3), list(job(0, 5, 99, 2, 9, 7), job(0, 5, 99, 2, 9, 7), job(0, 0, 99, 0, 0, 0)), list(0, 1, 2), nil, 32},
		"all past":           {plainShop(2), list(job(0, 5, 99, 0, 0), job(0, 6, 99, 0, 0)), list(0, 1), nil, 6},
		"the greatest":       {greatestShop(), greatestJobs(), list(0, 1, 2, 3, 4, 5), list(0), 118000},
	} {
		if best, e := flow.Best(c.s, c.jobs); !slices.Equal(best, c.best) || e != api.OK {
			t.Error(name, best, e)
		}
		due := api.OK
		if len(c.never) == 0 {
			due = api.ErrNone
		}
		if never, e := flow.Never(c.s, c.jobs); !slices.Equal(never, c.never) || e != due {
			t.Error(name, never, e)
		}
		if bound, e := flow.Bound(c.s, c.jobs); bound != c.bound || e != api.OK {
			t.Error(name, bound, e)
		}
	}
}

// trueBest returns the best order of all, by the rules.
func trueBest(s api.FlowShop, jobs []api.FlowJob) (best []int, least int) {
	end := -1
	eachOrder(len(jobs), nil, func(order []int) {
		_, sum, last := delays(s, jobs, trueStarts(s, jobs, order))
		if end < 0 || sum < least || sum == least && last < end {
			best, least, end = slices.Clone(order), sum, last
		}
	})
	return best, least
}

// chosen returns some of the jobs.
func chosen(jobs []api.FlowJob, numbers []int) []api.FlowJob {
	var some []api.FlowJob
	for _, number := range numbers {
		some = append(some, jobs[number])
	}
	return some
}

// eachChoice visits all ascending lists of so many numbers below another one, ascending.
func eachChoice(many, below int, begin []int, visit func([]int)) {
	if len(begin) == many {
		visit(begin)
		return
	}
	from := 0
	if len(begin) > 0 {
		from = begin[len(begin)-1] + 1
	}
	for next := from; next < below; next++ {
		eachChoice(many, below, append(slices.Clone(begin), next), visit)
	}
}

// trueNever returns the first list of the fewest jobs that cannot all be in time, by the rules.
func trueNever(s api.FlowShop, jobs []api.FlowJob) []int {
	for many := 1; many <= len(jobs); many++ {
		var first []int
		eachChoice(many, len(jobs), nil, func(numbers []int) {
			if first != nil {
				return
			}
			if _, sum := trueBest(s, chosen(jobs, numbers)); sum > 0 {
				first = numbers
			}
		})
		if first != nil {
			return first
		}
	}
	return nil
}

// P10.4, P10.6, P10.10: against all orders of all sets of jobs, minute by minute.
func TestBest(t *testing.T) {
	r := rand.New(rand.NewSource(14))
	seen := map[int]int{}
	for i := range 6000 {
		time := some(r, 8, 40)
		s := someShop(r, pick(r, 6, 20, 40), time)
		many := pick(r, some(r, 0, 4), 3, 4)
		if i%200 == 0 {
			many = some(r, 5, 6)
		}
		jobs := someJobs(r, s, many, 8, time)
		best, least := trueBest(s, jobs)
		if order, e := flow.Best(s, jobs); !slices.Equal(order, best) || e != api.OK {
			t.Fatal(s, jobs, order, best, e)
		}
		never, e := flow.Never(s, jobs)
		if least == 0 {
			if len(never) > 0 || e != api.ErrNone {
				t.Fatal(s, jobs, never, e)
			}
			if trueNever(s, jobs) != nil {
				seen[-1]++
			}
			continue
		}
		if want := trueNever(s, jobs); !slices.Equal(never, want) || e != api.OK {
			t.Fatal(s, jobs, never, want, e)
		}
		seen[len(never)]++
	}
	// There must have been lists of several lengths, and jobs that are in time just with the others.
	if seen[-1] < 10 || seen[1] < 100 || seen[2] < 100 || seen[3] < 50 || seen[4]+seen[5]+seen[6] < 8 {
		t.Error(seen)
	}
}

// P10.10: none is late by Best just if Never has no list; by no order are jobs later than by Best; those of Never cannot be in time, without any one of them they can.
func TestBestGreat(t *testing.T) {
	r := rand.New(rand.NewSource(15))
	for range 60 {
		time := pick(r, 3000, 9000, 100000)
		s := someShop(r, 500, time)
		jobs := someJobs(r, s, some(r, 1, 6), 2000, time)
		best, e := flow.Best(s, jobs)
		_, least, end, f := flow.Late(s, jobs, best)
		eachOrder(len(jobs), nil, func(order []int) {
			_, sum, last, e := flow.Late(s, jobs, order)
			if e != api.OK || sum < least || sum == least && (last < end || last == end && slices.Compare(order, best) < 0) {
				t.Fatal(s, jobs, best, order, e)
			}
		})
		never, g := flow.Never(s, jobs)
		if e+f != api.OK || g == api.ErrNone != (least == 0) || g != api.OK && g != api.ErrNone {
			t.Fatal(s, jobs, best, least, never, e, f, g)
		}
		if _, e := flow.Never(s, chosen(jobs, never)); g == api.OK && e != api.OK {
			t.Fatal(s, jobs, never, e)
		}
		for i := range never {
			if _, e := flow.Never(s, chosen(jobs, slices.Delete(slices.Clone(never), i, i+1))); e != api.ErrNone {
				t.Fatal(s, jobs, never, i, e)
			}
		}
	}
}

// trueBound returns the bound, number by number, as the chapter lists them.
func trueBound(s api.FlowShop, jobs []api.FlowJob) int {
	most := 0
	for _, j := range jobs {
		number := j.Ready
		for _, minutes := range j.Minutes {
			number += minutes
		}
		most = max(most, number)
	}
	for machine := range s.Machines {
		before, on, after := 1000000, 0, 1000000
		for _, j := range jobs {
			first, last := j.Ready, 0
			for other, minutes := range j.Minutes {
				if other < machine {
					first += minutes
				}
				if other > machine {
					last += minutes
				}
			}
			if j.Minutes[machine] > 0 {
				before, on, after = min(before, first), on+j.Minutes[machine], min(after, last)
			}
		}
		if on > 0 {
			most = max(most, before+on+after)
		}
	}
	return most
}

// P10.5, P10.11: against the numbers of the chapter; no last end is below the bound, and with no changes and no stops some are just there.
func TestBound(t *testing.T) {
	r := rand.New(rand.NewSource(16))
	reached := 0
	for range 800 {
		time := pick(r, 40, 3000, 100000)
		s := someShop(r, pick(r, 0, 6), time)
		jobs := someJobs(r, s, some(r, 0, 5), min(time, 2000), time)
		bound, e := flow.Bound(s, jobs)
		if bound != trueBound(s, jobs) || e != api.OK {
			t.Fatal(s, jobs, bound, e)
		}
		eachOrder(len(jobs), nil, func(order []int) {
			_, _, end, e := flow.Late(s, jobs, order)
			if e != api.OK || end < bound {
				t.Fatal(s, jobs, order, end, bound, e)
			}
			if end == bound {
				reached++
			}
		})
	}
	if reached < 100 {
		t.Error(reached)
	}
}
