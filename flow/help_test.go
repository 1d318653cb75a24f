package flow_test

import (
	"math/rand"
	"slices"

	"testliner/api"
)

// list returns a list, stop a stop, and job a job.
func list[E any](elements ...E) []E { return elements }

func stop(machine, from, to int) api.FlowStop {
	return api.FlowStop{Machine: machine, From: from, To: to}
}

func job(kind, ready, due int, minutes ...int) api.FlowJob {
	return api.FlowJob{Kind: kind, Ready: ready, Due: due, Minutes: minutes}
}

// chapterShop is the shop of the chapter's examples, with stops, and chapterJobs its jobs, of which the second one is due at some time.
func chapterShop(stops ...api.FlowStop) api.FlowShop {
	return api.FlowShop{Machines: 2, Change: list(list(0, 10), list(20, 0)), Stops: stops}
}

func chapterJobs(due int) []api.FlowJob {
	return list(job(0, 0, 100, 30, 40), job(1, 0, due, 20, 20), job(0, 15, 130, 10, 0))
}

// plainShop is a shop with machines that need no change, of jobs of one kind.
func plainShop(machines int, stops ...api.FlowStop) api.FlowShop {
	return api.FlowShop{Machines: machines, Change: list(list(0)), Stops: stops}
}

// greatestShop and greatestJobs have all numbers at their limits.
func greatestShop() api.FlowShop {
	s := api.FlowShop{Machines: 4, Change: slices.Repeat(list(list(500, 500, 500, 500)), 4)}
	for i := range 10 {
		s.Stops = append(s.Stops, stop(i%4, 99990+i, 100000))
	}
	return s
}

func greatestJobs() []api.FlowJob {
	return slices.Repeat(list(job(3, 100000, 100000, 2000, 2000, 2000, 2000)), 6)
}

// some returns a number from low to high, pick one of some.
func some(r *rand.Rand, low, high int) int { return low + r.Intn(high-low+1) }

func pick[E any](r *rand.Rand, list ...E) E { return list[r.Intn(len(list))] }

// someShop returns a shop with so short changes, and with stops within a time, someJobs so many jobs for it that come within that time and need as many minutes at most; many jobs are alike, or due at the same time.
func someShop(r *rand.Rand, change, time int) api.FlowShop {
	s := api.FlowShop{Machines: some(r, 1, 4)}
	kinds := some(r, 1, 4)
	for range kinds {
		var to []int
		for range kinds {
			to = append(to, pick(r, 0, some(r, 0, change), change))
		}
		s.Change = append(s.Change, to)
	}
	for range pick(r, 0, some(r, 0, 3), some(r, 0, 9)) {
		from := some(r, 0, time-1)
		s.Stops = append(s.Stops, stop(r.Intn(s.Machines), from, pick(r, from+1, some(r, from+1, min(time, from+1+time/8)))))
	}
	return s
}

func someJobs(r *rand.Rand, s api.FlowShop, many, minutes, time int) []api.FlowJob {
	var jobs []api.FlowJob
	for range many {
		if len(jobs) > 0 && r.Intn(8) == 0 {
			jobs = append(jobs, pick(r, jobs...))
			continue
		}
		j := job(r.Intn(len(s.Change)), pick(r, 0, some(r, 0, time/2)), 0)
		need := j.Ready
		for range s.Machines {
			j.Minutes = append(j.Minutes, pick(r, 0, some(r, 0, minutes), some(r, 0, minutes), minutes))
			need += j.Minutes[len(j.Minutes)-1]
		}
		j.Due = min(100000, pick(r, some(r, 0, time), need, need+some(r, 0, time), need+some(r, 0, 3*time)))
		jobs = append(jobs, j)
	}
	if r.Intn(3) == 0 {
		due := some(r, time/2, min(100000, 2*time))
		for number := range jobs {
			jobs[number].Due = due
		}
	}
	return jobs
}

// eachOrder visits all orders of jobs that begin with some, ascending.
func eachOrder(jobs int, order []int, visit func([]int)) {
	if len(order) == jobs {
		visit(order)
	}
	for next := range jobs {
		if !slices.Contains(order, next) {
			eachOrder(jobs, append(slices.Clone(order), next), visit)
		}
	}
}

// comes returns when a job comes to a machine.
func comes(jobs []api.FlowJob, starts [][]int, number, machine int) int {
	if machine == 0 {
		return jobs[number].Ready
	}
	return starts[number][machine-1] + jobs[number].Minutes[machine-1]
}

// earliest returns when a job can start on a machine at the earliest if no machine ever stood still: after those before it in an order.
func earliest(s api.FlowShop, jobs []api.FlowJob, order []int, place int, starts [][]int, machine int) int {
	j := jobs[order[place]]
	time := comes(jobs, starts, order[place], machine)
	for before := place - 1; before >= 0; before-- {
		last := jobs[order[before]]
		if last.Minutes[machine] > 0 {
			return max(time, starts[order[before]][machine]+last.Minutes[machine]+s.Change[last.Kind][j.Kind])
		}
	}
	return time
}

// fits reports whether a job can start on a machine at a time by the rules of the chapter, minute by minute.
func fits(s api.FlowShop, jobs []api.FlowJob, order []int, place int, starts [][]int, machine, time int) bool {
	minutes := jobs[order[place]].Minutes[machine]
	if minutes == 0 {
		return time == comes(jobs, starts, order[place], machine)
	}
	if time < earliest(s, jobs, order, place, starts, machine) {
		return false
	}
	for minute := time; minute < time+minutes; minute++ {
		for _, x := range s.Stops {
			if x.Machine == machine && minute >= x.From && minute < x.To {
				return false
			}
		}
	}
	return true
}

// trueStarts returns when jobs start by an order, at the first minute that fits.
func trueStarts(s api.FlowShop, jobs []api.FlowJob, order []int) [][]int {
	starts := make([][]int, len(jobs))
	for place, number := range order {
		for machine := range s.Machines {
			time := 0
			for !fits(s, jobs, order, place, starts, machine, time) {
				time++
			}
			starts[number] = append(starts[number], time)
		}
	}
	return starts
}

// delays returns by how much each job is late, their sum, and the last end.
func delays(s api.FlowShop, jobs []api.FlowJob, starts [][]int) (delays []int, sum, end int) {
	for number, j := range jobs {
		done := starts[number][s.Machines-1] + j.Minutes[s.Machines-1]
		delays = append(delays, max(done-j.Due, 0))
		sum += delays[number]
		end = max(end, done)
	}
	return delays, sum, end
}

// same reports whether lists of lists are the same.
func same(a, b [][]int) bool { return slices.EqualFunc(a, b, slices.Equal[[]int]) }
