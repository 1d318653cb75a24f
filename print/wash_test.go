package print_test

import (
	"math/rand"
	"slices"
	"testing"

	"testliner/api"
	"testliner/print"
)

// trueCost returns what an order of jobs costs.
func trueCost(jobs [][]int, first, order []int) int {
	cost, has := 0, slices.Clone(first)
	for _, number := range order {
		for station, ink := range jobs[number] {
			switch {
			case ink == 0:
				continue
			case has[station] == 0:
			case ink > has[station]:
				cost++
			case ink < has[station]:
				cost += 3
			}
			has[station] = ink
		}
	}
	return cost
}

// orders calls try with all orders of so many numbers, in ascending order.
func orders(many int, try func(order []int)) {
	var order []int
	var more func()
	more = func() {
		if len(order) == many {
			try(order)
			return
		}
		for n := range many {
			if !slices.Contains(order, n) {
				order = append(order, n)
				more()
				order = order[:len(order)-1]
			}
		}
	}
	more()
}

// someJobs returns jobs of Order with numbers up to most, of which some are 0.
func someJobs(r *rand.Rand, many, stations, most int) [][]int {
	var jobs [][]int
	for range many {
		jobs = append(jobs, someInks(r, stations, most))
	}
	return jobs
}

// someInks returns numbers up to most, of which some are 0.
func someInks(r *rand.Rand, stations, most int) []int {
	inks := make([]int, stations)
	for station := range inks {
		if r.Intn(4) > 0 {
			inks[station] = some(r, 1, most)
		}
	}
	return inks
}

// P6.9: the chapter's example; what each change costs; the smallest of orders that cost the same.
func TestOrderExamples(t *testing.T) {
	for i, c := range []struct {
		jobs  [][]int
		first []int
		order []int
		cost  int
	}{
		{list(list(3, 0), list(1, 2), list(2, 2)), list(0, 0), list(1, 2, 0), 2},
		{list(list(5)), list(0), list(0), 0},
		{list(list(5)), list(5), list(0), 0},
		{list(list(5)), list(4), list(0), 1},
		{list(list(5)), list(1), list(0), 1},
		{list(list(5)), list(6), list(0), 3},
		{list(list(5)), list(9), list(0), 3},
		{list(list(0)), list(9), list(0), 0},
		{list(list(0), list(5)), list(6), list(0, 1), 3},
		// A station keeps its ink through a job that does not use it.
		{list(list(2), list(0), list(1)), list(3), list(1, 2, 0), 4},
		{list(list(2), list(0), list(1)), list(0), list(1, 2, 0), 1},
		{list(list(2, 1), list(1, 2)), list(0, 0), list(0, 1), 4},
		{list(list(2, 2), list(1, 0), list(0, 1)), list(0, 0), list(1, 2, 0), 2},
		// A darker ink is cheap, however much darker it is; a lighter one is dear, however little.
		{list(list(9), list(1), list(5)), list(0), list(1, 2, 0), 2},
		{list(list(8), list(9)), list(9), list(1, 0), 3},
		{list(list(8), list(9)), list(8), list(0, 1), 1},
		{list(list(8), list(9), list(8)), list(9), list(1, 0, 2), 3},
		// What is first dear pays off later.
		{list(list(1, 9), list(2, 8), list(3, 7)), list(0, 0), list(0, 1, 2), 8},
		{list(list(1, 9, 9), list(2, 8, 8), list(3, 7, 7)), list(0, 0, 0), list(2, 1, 0), 10},
		{make([][]int, 7), nil, list(0, 1, 2, 3, 4, 5, 6), 0},
		{nil, list(3, 0), nil, 0},
		{nil, nil, nil, 0},
		{list(list(7), list(6), list(5), list(4), list(3), list(2), list(1)), list(0), list(6, 5, 4, 3, 2, 1, 0), 6},
		{list(list(7), list(6), list(5), list(4), list(3), list(2), list(1)), list(9), list(6, 5, 4, 3, 2, 1, 0), 9},
		{list(list(1, 2, 3, 4), list(1, 2, 3, 4)), list(9, 0, 3, 5), list(0, 1), 6},
	} {
		if order, cost, e := print.Order(c.jobs, c.first); !slices.Equal(order, c.order) || cost != c.cost || e != api.OK {
			t.Error(i, order, cost, e)
		}
	}
}

// P6.9, P6.14: no order costs less, none of the same cost is smaller, by all orders.
func TestOrder(t *testing.T) {
	r := rand.New(rand.NewSource(19))
	for n := range 1200 {
		stations := r.Intn(5)
		jobs := someJobs(r, r.Intn(6), stations, pick(r, 2, 3, 9))
		if n%60 == 0 {
			jobs = someJobs(r, some(r, 6, 7), stations, pick(r, 2, 3, 9))
		}
		first := someInks(r, stations, pick(r, 2, 9))
		var want []int
		least := -1
		orders(len(jobs), func(order []int) {
			if cost := trueCost(jobs, first, order); least < 0 || cost < least {
				want, least = slices.Clone(order), cost
			}
		})
		if order, cost, e := print.Order(jobs, first); !slices.Equal(order, want) || cost != least || e != api.OK {
			t.Error(jobs, first, order, cost, e, want, least)
		}
	}
}

// P6.14: without its last job an order costs no more, and neither do the jobs without that one.
func TestOrderFollows(t *testing.T) {
	r := rand.New(rand.NewSource(20))
	for range 300 {
		stations := some(r, 1, 4)
		jobs, first := someJobs(r, some(r, 1, 7), stations, 9), someInks(r, stations, 9)
		order, cost, _ := print.Order(jobs, first)
		if got := trueCost(jobs, first, order); got != cost {
			t.Error(jobs, first, order, cost, got)
		}
		last := order[len(order)-1]
		_, less, e := print.Order(slices.Delete(slices.Clone(jobs), last, last+1), first)
		if trueCost(jobs, first, order[:len(order)-1]) > cost || less > cost || e != api.OK {
			t.Error(jobs, first, order, cost, less, e)
		}
	}
}

// P6.10: the chapter's example; which ink must be washed off, and which may stay.
func TestLoadExamples(t *testing.T) {
	for i, c := range []struct {
		jobs     [][]int
		stations int
		washes   int
	}{
		{list(list(1, 2), list(3), list(1, 2)), 2, 2},
		{list(list(1, 2), list(3), list(1, 2)), 3, 0},
		{list(list(1, 2), list(3), list(1)), 2, 1},
		{list(list(1, 2), list(3), list(2)), 2, 1},
		{list(list(1), list(2), list(3)), 2, 1},
		{list(list(1), list(1), list(1)), 1, 0},
		{list(list(1), list(2), list(1), list(2), list(1), list(2), list(1)), 1, 6},
		{list(list(1), list(2), list(1), list(2), list(1), list(2), list(1)), 2, 0},
		{list(list(1), list(2), list(3), list(1), list(2), list(3), list(1)), 2, 3},
		// All of a job's inks are on stations at the same time.
		{list(list(1, 2), list(2, 3), list(3, 1)), 2, 2},
		{list(list(1, 2), list(3, 1)), 2, 1},
		{list(list(1, 2), list(3, 2)), 2, 1},
		{list(list(1, 2), list(2, 1), list(1, 2)), 2, 0},
		{list(list(1, 2), list(3, 4), list(1, 2)), 2, 4},
		{list(list(1, 2, 3, 4), list(5, 6, 7, 8), list(9)), 4, 5},
		{list(list(1, 2, 3, 4), list(9), list(4, 3, 2)), 4, 1},
		{list(list(9, 8, 7, 6), list(5, 9, 8, 7), list(6)), 4, 2},
		// A job without inks changes nothing.
		{list(list(1), nil, list(1), nil), 1, 0},
		{make([][]int, 7), 1, 0},
		{nil, 4, 0},
		{list(list(1), list(2), list(3), list(4)), 4, 0},
		{list(list(1), list(2), list(3), list(4), list(5)), 4, 1},
	} {
		if washes, e := print.Load(c.jobs, c.stations); washes != c.washes || e != api.OK {
			t.Error(i, washes, e)
		}
	}
}

// trueLoad returns the least number of washes, by all that can be done before each job: wash any station that has an ink, and give any ink to any station that has none.
func trueLoad(jobs [][]int, stations, inks int) int {
	cost := map[[4]int]int{{}: 0}
	for _, job := range jobs {
		spread(cost, stations, inks)
		for shop := range cost {
			if slices.ContainsFunc(job, func(ink int) bool { return !slices.Contains(shop[:], ink) }) {
				delete(cost, shop)
			}
		}
	}
	least := -1
	for _, washes := range cost {
		if least < 0 || washes < least {
			least = washes
		}
	}
	return least
}

// spread adds to the costs of some shops those of all that come from them.
func spread(cost map[[4]int]int, stations, inks int) {
	var work [][4]int
	for shop := range cost {
		work = append(work, shop)
	}
	for len(work) > 0 {
		shop := work[0]
		work = work[1:]
		for station := range stations {
			for ink := range inks + 1 {
				if shop[station] != 0 && ink != 0 || shop[station] == ink {
					continue
				}
				after, washes := shop, cost[shop]
				after[station] = ink
				if ink == 0 {
					washes++
				}
				if before, found := cost[after]; !found || washes < before {
					cost[after] = washes
					work = append(work, after)
				}
			}
		}
	}
}

// someLoads returns jobs of Load with inks up to most, each with at most so many.
func someLoads(r *rand.Rand, many, each, most int) [][]int {
	var jobs [][]int
	for range many {
		inks := r.Perm(most)[:r.Intn(min(each, most)+1)]
		for i := range inks {
			inks[i]++
		}
		jobs = append(jobs, inks)
	}
	return jobs
}

// P6.10, P6.14: no more washes than anything that can be done takes.
func TestLoad(t *testing.T) {
	r := rand.New(rand.NewSource(21))
	for n := range 700 {
		stations, inks := some(r, 1, 3), some(r, 2, 5)
		if n%100 == 0 {
			stations, inks = 4, 6
		}
		jobs := someLoads(r, r.Intn(8), stations, inks)
		if washes, e := print.Load(jobs, stations); washes != trueLoad(jobs, stations, inks) || e != api.OK {
			t.Error(jobs, stations, washes, e, trueLoad(jobs, stations, inks))
		}
	}
}

// P6.10: it is all one in which order a job has its inks, and what they are called.
func TestLoadNames(t *testing.T) {
	r := rand.New(rand.NewSource(22))
	for range 400 {
		stations := some(r, 1, 4)
		jobs := someLoads(r, 7, stations, 9)
		names := r.Perm(9)
		var other [][]int
		for _, job := range jobs {
			inks := slices.Clone(job)
			r.Shuffle(len(inks), func(i, j int) { inks[i], inks[j] = inks[j], inks[i] })
			for i := range inks {
				inks[i] = names[inks[i]-1] + 1
			}
			other = append(other, inks)
		}
		washes, _ := print.Load(jobs, stations)
		if same, e := print.Load(other, stations); same != washes || e != api.OK {
			t.Error(jobs, stations, washes, other, same, e)
		}
	}
}

// P6.14: with a station more there are no more washes; jobs that need no more than the job before them need none.
func TestLoadFollows(t *testing.T) {
	r := rand.New(rand.NewSource(23))
	for range 400 {
		stations := some(r, 1, 4)
		jobs := someLoads(r, r.Intn(8), stations, 9)
		washes, _ := print.Load(jobs, stations)
		for more := stations + 1; more <= 4; more++ {
			fewer, e := print.Load(jobs, more)
			if fewer > washes || e != api.OK {
				t.Error(jobs, stations, washes, more, fewer, e)
			}
			washes = fewer
		}
		if len(jobs) == 0 {
			continue
		}
		before, _ := print.Load(jobs[:1], stations)
		again := slices.Repeat(jobs[:1], 7)
		for i := range again {
			again[i] = slices.Clone(again[i])
			r.Shuffle(len(again[i]), func(j, k int) { again[i][j], again[i][k] = again[i][k], again[i][j] })
		}
		if same, e := print.Load(again, stations); same != 0 || before != 0 || e != api.OK {
			t.Error(again, stations, same, before, e)
		}
		for at := range jobs[:min(6, len(jobs))] {
			start, _ := print.Load(jobs[:at+1], stations)
			longer := append(slices.Clone(jobs[:at+1]), jobs[at])
			if same, e := print.Load(longer, stations); same != start || e != api.OK {
				t.Error(longer, stations, same, start, e)
			}
		}
	}
}
