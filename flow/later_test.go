package flow_test

import (
	"math/rand"
	"slices"
	"testing"

	"testliner/api"
	"testliner/flow"
)

// P10.8: the chapter's example, and the edges.
func TestBreakExamples(t *testing.T) {
	due := func(dues ...int) []api.FlowJob {
		jobs := chapterJobs(90)
		for number, due := range dues {
			jobs[number].Due = due
		}
		return jobs
	}
	for name, c := range map[string]struct {
		s      api.FlowShop
		jobs   []api.FlowJob
		order  []int
		stop   api.FlowStop
		broken []int
	}{
		"the chapter's":          {chapterShop(), chapterJobs(100), list(0, 1, 2), stop(1, 60, 70), list(0, 1)},
		"one is late before":     {chapterShop(), chapterJobs(90), list(0, 1, 2), stop(1, 60, 70), list(0)},
		"between two jobs":       {chapterShop(), chapterJobs(100), list(0, 1, 2), stop(1, 70, 80), nil},
		"a minute too long":      {chapterShop(), chapterJobs(100), list(0, 1, 2), stop(1, 70, 81), list(1)},
		"all":                    {chapterShop(), due(70, 100, 90), list(0, 1, 2), stop(0, 0, 1), list(0, 1, 2)},
		"ascending":              {chapterShop(), due(110, 40, 80), list(1, 0, 2), stop(0, 0, 1), list(0, 1, 2)},
		"the last by number":     {chapterShop(), chapterJobs(100), list(0, 1, 2), stop(0, 80, 140), list(2)},
		"after all":              {chapterShop(), due(70, 100, 90), list(0, 1, 2), stop(0, 90, 100000), nil},
		"a machine that is past": {chapterShop(), due(70, 100, 90), list(0, 1, 2), stop(1, 100, 100000), nil},
		"once more the same":     {chapterShop(stop(1, 60, 70)), chapterJobs(100), list(0, 1, 2), stop(1, 60, 70), nil},
		"a tenth stop":           {chapterShop(slices.Repeat(list(stop(0, 99999, 100000)), 9)...), chapterJobs(100), list(0, 1, 2), stop(1, 60, 70), list(0, 1)},
		"all late before":        {chapterShop(), due(0, 0, 0), list(0, 1, 2), stop(0, 0, 100000), nil},
	} {
		if broken, e := flow.Break(c.s, c.jobs, c.order, c.stop); !slices.Equal(broken, c.broken) || e != api.OK {
			t.Error(name, broken, e)
		}
	}
}

// P10.9: the chapter's examples, and the edges.
func TestSlackExamples(t *testing.T) {
	far := chapterJobs(100000)
	far[0].Due, far[2].Due = 100000, 100000
	one := func(ready, due, minutes int) []api.FlowJob { return list(job(0, ready, due, minutes)) }
	for name, c := range map[string]struct {
		s           api.FlowShop
		jobs        []api.FlowJob
		order       []int
		job, number int
	}{
		"the job 0":             {chapterShop(), chapterJobs(100), list(0, 1, 2), 0, 0},
		"the job 1":             {chapterShop(), chapterJobs(100), list(0, 1, 2), 1, 60},
		"the job 2":             {chapterShop(), chapterJobs(100), list(0, 1, 2), 2, 105},
		"the others are later":  {chapterShop(), chapterJobs(110), list(0, 1, 2), 0, 10},
		"as much as can be":     {chapterShop(), far, list(0, 1, 2), 0, 10000},
		"also of the last":      {chapterShop(), far, list(0, 1, 2), 2, 10000},
		"one, 0":                {plainShop(1), one(0, 10, 10), list(0), 0, 0},
		"one, 1":                {plainShop(1), one(0, 11, 10), list(0), 0, 1},
		"9998":                  {plainShop(1), one(0, 10008, 10), list(0), 0, 9998},
		"9999":                  {plainShop(1), one(0, 10009, 10), list(0), 0, 9999},
		"10000":                 {plainShop(1), one(0, 10010, 10), list(0), 0, 10000},
		"10001 would do":        {plainShop(1), one(0, 10011, 10), list(0), 0, 10000},
		"up to the end of time": {plainShop(1), one(95000, 100000, 0), list(0), 0, 5000},
		// It comes in a stop, and in one that was none before.
		"in a stop":         {plainShop(1, stop(0, 0, 20)), one(0, 30, 10), list(0), 0, 20},
		"up to a stop":      {plainShop(1, stop(0, 20, 30)), one(0, 39, 10), list(0), 0, 10},
		"behind a stop":     {plainShop(1, stop(0, 20, 30)), one(0, 40, 10), list(0), 0, 30},
		"one that waits":    {plainShop(1), list(job(0, 0, 20, 20), job(0, 0, 30, 10)), list(0, 1), 1, 20},
		"one that none has": {plainShop(2), list(job(0, 0, 20, 20, 0), job(0, 0, 7, 0, 0)), list(0, 1), 1, 7},
		"past the others":   {plainShop(1), list(job(0, 0, 10, 10), job(0, 0, 10000, 0), job(0, 0, 20, 10)), list(1, 0, 2), 1, 10000},
	} {
		if number, e := flow.Slack(c.s, c.jobs, c.order, c.job); number != c.number || e != api.OK {
			t.Error(name, number, e)
		}
	}
	// By so much later a job comes after the end of all times.
	jobs := append(one(100000, 100000, 0), job(0, 0, 100000, 2000))
	if number, e := flow.Slack(plainShop(1), jobs, list(1, 0), 1); number != 10000 || e != api.OK {
		t.Error(number, e)
	}
}

// later returns jobs of which one comes later, longer jobs of which one needs longer on a machine; the jobs that are passed stay as they are.
func later(jobs []api.FlowJob, number, by int) []api.FlowJob {
	jobs = slices.Clone(jobs)
	jobs[number].Ready += by
	return jobs
}

func longer(jobs []api.FlowJob, number, machine, by int) []api.FlowJob {
	jobs = slices.Clone(jobs)
	jobs[number].Minutes = slices.Clone(jobs[number].Minutes)
	jobs[number].Minutes[machine] += by
	return jobs
}

// P10.8, P10.9: against the rules, minute by minute: the jobs that are late with a stop and without it, and each time by which a job can come later.
func TestLater(t *testing.T) {
	r := rand.New(rand.NewSource(17))
	broke, slack := 0, 0
	for range 1500 {
		time := some(r, 8, 40)
		s := someShop(r, 6, time)
		jobs := someJobs(r, s, some(r, 1, 6), 8, time)
		order := r.Perm(len(jobs))
		without, sum, _ := delays(s, jobs, trueStarts(s, jobs, order))
		from := r.Intn(time)
		another := stop(r.Intn(s.Machines), from, from+some(r, 1, time))
		stopped := s
		stopped.Stops = append(slices.Clone(s.Stops), another)
		with, _, _ := delays(stopped, jobs, trueStarts(stopped, jobs, order))
		var want []int
		for number := range jobs {
			if with[number] > 0 && without[number] == 0 {
				want = append(want, number)
				broke++
			}
		}
		if broken, e := flow.Break(s, jobs, order, another); !slices.Equal(broken, want) || e != api.OK {
			t.Fatal(s, jobs, order, another, broken, want, e)
		}
		number := r.Intn(len(jobs))
		got, e := flow.Slack(s, jobs, order, number)
		if sum > 0 {
			if got != 0 || e != api.ErrState {
				t.Fatal(s, jobs, order, number, got, e)
			}
			continue
		}
		by := 0
		for sum == 0 {
			by++
			_, sum, _ = delays(s, later(jobs, number, by), trueStarts(s, later(jobs, number, by), order))
		}
		if got != by-1 || e != api.OK {
			t.Fatal(s, jobs, order, number, got, by, e)
		}
		slack += min(got, 1)
	}
	if broke < 100 || slack < 100 {
		t.Error(broke, slack)
	}
}

// P10.9, P10.12: with numbers up to the limits, by Slack no job is late, and by one more some job is.
func TestSlackGreat(t *testing.T) {
	r := rand.New(rand.NewSource(18))
	seen := map[string]int{}
	for range 2000 {
		time := pick(r, 3000, 9000, 80000)
		s := someShop(r, 500, time)
		jobs := someJobs(r, s, some(r, 1, 6), 2000, time)
		for number := range jobs {
			jobs[number].Due = min(100000, jobs[number].Due+pick(r, 0, 2000, 9000))
		}
		order, number := r.Perm(len(jobs)), r.Intn(len(jobs))
		by, e := flow.Slack(s, jobs, order, number)
		if e == api.ErrState {
			continue
		}
		_, now, _, f := flow.Late(s, later(jobs, number, by), order)
		_, then, _, g := flow.Late(s, later(jobs, number, by+1), order)
		if e+f+g != api.OK || now > 0 || then == 0 && by < 10000 || by < 0 || by > 10000 {
			t.Fatal(s, jobs, order, number, by, now, then, e, f, g)
		}
		switch by {
		case 0:
			seen["none"]++
		case 10000:
			seen["all"]++
		default:
			seen["some"]++
		}
	}
	if seen["none"] < 20 || seen["all"] < 20 || seen["some"] < 100 {
		t.Error(seen)
	}
}

// P10.12: if a job comes later, needs longer, or a machine stands still once more, no job starts earlier anywhere, and those of Break are late.
func TestNothingEarlier(t *testing.T) {
	r := rand.New(rand.NewSource(19))
	for range 3000 {
		time := some(r, 8, 5000)
		s := someShop(r, 500, time)
		jobs := someJobs(r, s, some(r, 1, 6), some(r, 1, 1900), time)
		order, number, machine := r.Perm(len(jobs)), r.Intn(len(jobs)), r.Intn(s.Machines)
		from := r.Intn(time)
		another := stop(machine, from, some(r, from+1, from+time))
		stopped := s
		stopped.Stops = append(slices.Clone(s.Stops), another)
		before, e := flow.Starts(s, jobs, order)
		changes := list(later(jobs, number, some(r, 0, time)), jobs)
		if jobs[number].Minutes[machine] > 0 {
			changes = append(changes, longer(jobs, number, machine, some(r, 0, 100)))
		}
		for i, changed := range changes {
			shop := s
			if i == 1 {
				shop = stopped
			}
			after, f := flow.Starts(shop, changed, order)
			for number := range jobs {
				for machine := range s.Machines {
					if e+f != api.OK || after[number][machine] < before[number][machine] {
						t.Fatal(shop, changed, order, number, machine, e, f)
					}
				}
			}
		}
		broken, e := flow.Break(s, jobs, order, another)
		starts, f := flow.Starts(stopped, jobs, order)
		late, _, _ := delays(stopped, jobs, starts)
		if e+f != api.OK || slices.ContainsFunc(broken, func(number int) bool { return late[number] == 0 }) {
			t.Fatal(s, jobs, order, another, broken, late, e, f)
		}
	}
}
