package flow_test

import (
	"math/rand"
	"slices"
	"testing"

	"testliner/api"
	"testliner/flow"
)

// P10.2, P10.3, P10.7: the chapter's examples, and the edges.
func TestCourseExamples(t *testing.T) {
	long := func(many int) []api.FlowStop {
		var stops []api.FlowStop
		for i := many - 1; i >= 0; i-- {
			stops = append(stops, stop(0, 10*i, 10*i+9))
		}
		return stops
	}
	alike := api.FlowShop{Machines: 1, Change: list(list(7))}
	three := api.FlowShop{Machines: 1, Change: list(list(0, 5, 50), list(5, 0, 6), list(50, 6, 0))}
	for name, c := range map[string]struct {
		s              api.FlowShop
		jobs           []api.FlowJob
		order          []int
		starts         [][]int
		late, sum, end int
		wait           []int
	}{
		"1, 0, 2": {chapterShop(), chapterJobs(90), list(1, 0, 2), list(list(40, 70), list(0, 20), list(70, 80)), 1, 10, 110, list(2, 0)},
		"0, 1, 2": {chapterShop(), chapterJobs(90), list(0, 1, 2), list(list(0, 30), list(40, 80), list(80, 90)), 1, 10, 100, list(2, 1)},
		"0, 2, 1": {chapterShop(), chapterJobs(90), list(0, 2, 1), list(list(0, 30), list(50, 80), list(30, 40)), 1, 10, 100, list(2, 1)},
		// One that ends when it is due is not late.
		"due at its end": {plainShop(1), list(job(0, 5, 15, 10)), list(0), list(list(5)), 0, 0, 15, list(0)},
		"late by one":    {plainShop(1), list(job(0, 5, 14, 10)), list(0), list(list(5)), 1, 1, 15, list(0)},
		// For the first job of a machine there is no change, for others of the same kind there can be one.
		"a change between like ones": {alike, list(job(0, 0, 99, 1), job(0, 0, 99, 1)), list(1, 0), list(list(8), list(0)), 0, 0, 9, list(1)},
		"no change before it":        {alike, list(job(0, 3, 99, 1)), list(0), list(list(3)), 0, 0, 4, list(0)},
		// A job that passes a machine by changes nothing there, and may pass others.
		"past one that works": {three, list(job(0, 0, 99, 9), job(2, 1, 99, 0), job(1, 0, 99, 2)), list(0, 1, 2), list(list(0), list(1), list(14)), 0, 0, 16, list(1)},
		"changes by turns":    {three, list(job(0, 0, 99, 9), job(1, 0, 99, 1), job(2, 0, 99, 2)), list(0, 1, 2), list(list(0), list(14), list(21)), 0, 0, 23, list(2)},
		"a longer change":     {three, list(job(0, 0, 99, 9), job(1, 0, 99, 1), job(2, 0, 99, 2)), list(0, 2, 1), list(list(0), list(67), list(59)), 0, 0, 68, list(2)},
		"a change that is done": {three, list(job(0, 0, 99, 9), job(2, 59, 99, 1), job(1, 66, 99, 2)), list(0, 1, 2),
			list(list(0), list(59), list(66)), 0, 0, 68, list(0)},
		// The machine is changed while it stands still; it works up to a stop, and from its end on.
		"a change in a stop": {api.FlowShop{Machines: 1, Change: three.Change, Stops: list(stop(0, 9, 14))}, list(job(0, 0, 99, 9), job(1, 0, 99, 1)), list(0, 1), list(list(0), list(14)), 0, 0, 15, list(1)},
		"up to a stop":       {plainShop(1, stop(0, 9, 14)), list(job(0, 0, 99, 9)), list(0), list(list(0)), 0, 0, 9, list(0)},
		"from its end on":    {plainShop(1, stop(0, 9, 14)), list(job(0, 14, 99, 9)), list(0), list(list(14)), 0, 0, 23, list(0)},
		"into a stop":        {plainShop(1, stop(0, 9, 14)), list(job(0, 0, 99, 10)), list(0), list(list(14)), 0, 0, 24, list(1)},
		"around a stop":      {plainShop(1, stop(0, 9, 10)), list(job(0, 0, 99, 30)), list(0), list(list(10)), 0, 0, 40, list(1)},
		"in a stop":          {plainShop(1, stop(0, 9, 14)), list(job(0, 10, 99, 1)), list(0), list(list(14)), 0, 0, 15, list(1)},
		"a stop elsewhere":   {plainShop(2, stop(1, 0, 50)), list(job(0, 0, 99, 9, 0)), list(0), list(list(0, 9)), 0, 0, 9, list(0, 0)},
		"by, in a stop":      {plainShop(2, stop(0, 0, 50), stop(1, 0, 60)), list(job(0, 7, 99, 0, 0)), list(0), list(list(7, 7)), 0, 0, 7, list(0, 0)},
		"stops in a row":     {plainShop(1, stop(0, 20, 30), stop(0, 10, 20), stop(0, 0, 10)), list(job(0, 5, 99, 1)), list(0), list(list(30)), 0, 0, 31, list(1)},
		"stops in stops":     {plainShop(1, stop(0, 0, 30), stop(0, 5, 10), stop(0, 25, 40), stop(0, 0, 30)), list(job(0, 0, 99, 1)), list(0), list(list(40)), 0, 0, 41, list(1)},
		"ten gaps too short": {plainShop(1, long(10)...), list(job(0, 0, 99, 2)), list(0), list(list(99)), 1, 2, 101, list(1)},
		"a gap of one":       {plainShop(1, long(10)...), list(job(0, 0, 99, 1), job(0, 0, 99, 1)), list(0, 1), list(list(9), list(19)), 0, 0, 20, list(2)},
		// The last end is that of any job, also of one that passes all machines by.
		"all by": {plainShop(2), list(job(0, 70, 69, 0, 0), job(0, 0, 9, 1, 1)), list(0, 1), list(list(70, 70), list(0, 1)), 1, 1, 70, list(0, 0)},
		// At the time of its start a job waits no more: one that comes then waits alone.
		"one after another": {plainShop(1), list(job(0, 0, 99, 5), job(0, 1, 99, 5), job(0, 5, 99, 5)), list(0, 1, 2), list(list(0), list(5), list(10)), 0, 0, 15, list(1)},
		"a minute both":     {plainShop(1), list(job(0, 0, 99, 5), job(0, 1, 99, 5), job(0, 4, 99, 5)), list(0, 1, 2), list(list(0), list(5), list(10)), 0, 0, 15, list(2)},
		"before the next":   {plainShop(2), list(job(0, 0, 99, 1, 9), job(0, 0, 99, 1, 9), job(0, 0, 99, 1, 9)), list(0, 1, 2), list(list(0, 1), list(1, 10), list(2, 19)), 0, 0, 28, list(2, 2)},
		"past the first":    {plainShop(2), list(job(0, 0, 99, 0, 9), job(0, 0, 99, 0, 9), job(0, 3, 99, 0, 9)), list(0, 1, 2), list(list(0, 0), list(0, 9), list(3, 18)), 0, 0, 27, list(0, 2)},
		"a later one first": {plainShop(1), list(job(0, 0, 1, 1), job(0, 50, 60, 9)), list(1, 0), list(list(59), list(50)), 1, 59, 60, list(1)},
		"the greatest": {greatestShop(), greatestJobs(), list(0, 1, 2, 3, 4, 5), list(list(100000, 102000, 104000, 106000), list(102500, 104500, 106500, 108500), list(105000, 107000, 109000, 111000), list(107500, 109500, 111500, 113500), list(110000, 112000, 114000, 116000), list(112500, 114500, 116500, 118500)),
			6, 6*8000 + 15*2500, 120500, list(5, 0, 0, 0)},
	} {
		starts, e := flow.Starts(c.s, c.jobs, c.order)
		if !same(starts, c.starts) || e != api.OK {
			t.Error(name, starts, e)
		}
		if late, sum, end, e := flow.Late(c.s, c.jobs, c.order); late != c.late || sum != c.sum || end != c.end || e != api.OK {
			t.Error(name, late, sum, end, e)
		}
		if wait, e := flow.Wait(c.s, c.jobs, c.order); !slices.Equal(wait, c.wait) || e != api.OK {
			t.Error(name, wait, e)
		}
	}
}

// waiting returns how many jobs wait before a machine at a time.
func waiting(jobs []api.FlowJob, starts [][]int, machine, time int) int {
	many := 0
	for number, j := range jobs {
		if j.Minutes[machine] > 0 && time >= comes(jobs, starts, number, machine) && time < starts[number][machine] {
			many++
		}
	}
	return many
}

// P10.2, P10.3, P10.7, P10.11, P10.13: against the rules, minute by minute, in small shops.
func TestCourse(t *testing.T) {
	r := rand.New(rand.NewSource(10))
	seen := map[string]int{}
	for range 3000 {
		time := some(r, 8, 60)
		s := someShop(r, 6, time)
		jobs := someJobs(r, s, some(r, 0, 6), 8, time)
		order := r.Perm(len(jobs))
		want := trueStarts(s, jobs, order)
		starts, e := flow.Starts(s, jobs, order)
		if !same(starts, want) || e != api.OK {
			t.Fatal(s, jobs, order, starts, want, e)
		}
		each, all, last := delays(s, jobs, want)
		none := len(slices.DeleteFunc(each, func(n int) bool { return n > 0 }))
		if late, sum, end, e := flow.Late(s, jobs, order); late != len(jobs)-none || sum != all || end != last || e != api.OK {
			t.Fatal(s, jobs, order, late, sum, end, e)
		}
		var most []int
		for machine := range s.Machines {
			most = append(most, 0)
			need := 0
			for minute := range last + 1 {
				most[machine] = max(most[machine], waiting(jobs, want, machine, minute))
			}
			for _, j := range jobs {
				need += min(j.Minutes[machine], 1)
			}
			if most[machine] > need {
				t.Fatal(s, jobs, order, machine, most)
			}
		}
		if wait, e := flow.Wait(s, jobs, order); !slices.Equal(wait, most) || e != api.OK {
			t.Fatal(s, jobs, order, wait, most, e)
		}
		if all == 0 {
			seen["in time"]++
		}
		if slices.Max(most) > 2 {
			seen["many wait"]++
		}
		if bare := s; len(s.Stops) > 0 {
			bare.Stops = nil
			if !same(trueStarts(bare, jobs, order), want) {
				seen["stopped"]++
			}
		}
	}
	if seen["in time"] < 300 || seen["in time"] > 2700 || seen["many wait"] < 300 || seen["stopped"] < 300 {
		t.Error(seen)
	}
}

// P10.2, P10.11: with numbers up to the limits the rules hold, and no earlier time at which a job comes, a machine is changed or a stop ends fits, nor some others before it.
func TestCourseGreat(t *testing.T) {
	r := rand.New(rand.NewSource(11))
	for range 60 {
		time := pick(r, 9000, 100000)
		s := someShop(r, 500, time)
		jobs := someJobs(r, s, some(r, 1, 6), 2000, time)
		order := r.Perm(len(jobs))
		starts, e := flow.Starts(s, jobs, order)
		if e != api.OK {
			t.Fatal(s, jobs, order, e)
		}
		for place, number := range order {
			for machine := range s.Machines {
				at := starts[number][machine]
				if !fits(s, jobs, order, place, starts, machine, at) {
					t.Fatal(s, jobs, order, starts, number, machine)
				}
				tries := list(earliest(s, jobs, order, place, starts, machine), at-1, r.Intn(at+1), r.Intn(at+1))
				for _, x := range s.Stops {
					tries = append(tries, x.To, x.From-jobs[number].Minutes[machine])
				}
				for _, time := range tries {
					if time < at && fits(s, jobs, order, place, starts, machine, time) {
						t.Fatal(s, jobs, order, starts, number, machine, time)
					}
				}
			}
		}
	}
}

// busy is where and when a job is: to the minute in which it is done, which is not its own any more.
type busy struct{ machine, kind, from, to int }

// P10.11: each job is on one machine at a time, each machine has one job at a time and is changed between them, and none works while it stands still, said without the rules.
func TestOneAtATime(t *testing.T) {
	r := rand.New(rand.NewSource(12))
	for range 2000 {
		time := some(r, 8, 3000)
		s := someShop(r, 500, time)
		jobs := someJobs(r, s, some(r, 1, 6), some(r, 1, 2000), time)
		starts, e := flow.Starts(s, jobs, r.Perm(len(jobs)))
		var all []busy
		for number, j := range jobs {
			free := j.Ready
			for machine, minutes := range j.Minutes {
				from := starts[number][machine]
				if from < free || minutes == 0 && from != free {
					t.Fatal(s, jobs, starts, number, machine)
				}
				free = from + minutes
				if minutes > 0 {
					all = append(all, busy{machine, j.Kind, from, free})
				}
			}
		}
		for i, a := range all {
			for _, x := range s.Stops {
				if x.Machine == a.machine && x.From < a.to && a.from < x.To {
					t.Fatal(s, jobs, starts, a, x)
				}
			}
			for _, b := range all[:i] {
				if a.machine != b.machine {
					continue
				}
				first, last := a, b
				if first.from > last.from {
					first, last = b, a
				}
				// Another job between them can make the way from kind to kind shorter.
				if last.from < first.to || next(all, first, last) && last.from < first.to+s.Change[first.kind][last.kind] {
					t.Fatal(s, jobs, starts, first, last)
				}
			}
		}
		if e != api.OK {
			t.Fatal(e)
		}
	}
}

// next reports whether no job is on a machine between two others.
func next(all []busy, first, last busy) bool {
	return !slices.ContainsFunc(all, func(x busy) bool {
		return x.machine == first.machine && x.from > first.from && x.from < last.from
	})
}

// P10.13: before a machine that all jobs pass by none waits.
func TestWaitPast(t *testing.T) {
	r := rand.New(rand.NewSource(13))
	for range 500 {
		s := someShop(r, 6, 40)
		jobs := someJobs(r, s, some(r, 0, 6), 8, 40)
		machine := r.Intn(s.Machines)
		for number := range jobs {
			jobs[number].Minutes = slices.Clone(jobs[number].Minutes)
			jobs[number].Minutes[machine] = 0
		}
		if wait, e := flow.Wait(s, jobs, r.Perm(len(jobs))); e != api.OK || wait[machine] != 0 || len(wait) != s.Machines {
			t.Fatal(s, jobs, wait, e)
		}
	}
}
