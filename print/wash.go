package print

import (
	"iter"
	"math"
	"math/bits"
	"slices"

	"testliner/api"
)

// shop is what is left to be done, and which inks the stations have then.
type shop struct {
	left int                       // nothing, if it is 0
	inks [api.MaxPrintStations]int // 0: none
}

// shopOf returns a shop with some inks.
func shopOf(left int, inks ...int) shop {
	s := shop{left: left}
	copy(s.inks[:], inks)
	return s
}

// washer finds what shops cost at least until nothing is left.
type washer struct {
	after func(shop) iter.Seq2[shop, int] // the shops that can come next, and what they cost
	known map[shop]int                    // what was found
}

// least returns what a shop costs at least.
func (w washer) least(s shop) int {
	if s.left == 0 {
		return 0
	}
	if cost, found := w.known[s]; found {
		return cost
	}
	_, cost := w.best(s)
	w.known[s] = cost
	return cost
}

// best returns the first shop that can come next at the least cost, and what both cost then.
func (w washer) best(s shop) (best shop, least int) {
	least = math.MaxInt
	for next, cost := range w.after(s) {
		if all := cost + w.least(next); all < least {
			best, least = next, all
		}
	}
	return best, least
}

// cheapest returns the smallest order of jobs with the least cost. What is left of a shop is a set of jobs as bits.
func cheapest(first []int, jobs ...[]int) (order []int, cost int) {
	w := washer{known: map[shop]int{}, after: func(s shop) iter.Seq2[shop, int] { return s.next(jobs...) }}
	s := shopOf(1<<len(jobs)-1, first...)
	cost = w.least(s)
	for s.left != 0 {
		next, _ := w.best(s)
		order = append(order, bits.TrailingZeros(uint(s.left&^next.left)))
		s = next
	}
	return order, cost
}

// next yields the shops after each of the jobs that are left was printed, and what that costs.
func (s shop) next(jobs ...[]int) iter.Seq2[shop, int] {
	return func(yield func(shop, int) bool) {
		for number, job := range jobs {
			if s.left>>number&1 == 1 && !yield(s.printed(number, job...)) {
				return
			}
		}
	}
}

// printed returns the shop after a job with a number was printed, and what that costs.
func (s shop) printed(number int, job ...int) (after shop, cost int) {
	s.left &^= 1 << number
	for station, ink := range job {
		if ink != 0 {
			cost += change(s.inks[station], ink)
			s.inks[station] = ink
		}
	}
	return s, cost
}

// change returns what it costs that a station with an ink, or none, gets another ink, or the same.
func change(from, to int) int {
	switch {
	case from == 0 || from == to:
		return 0
	case from < to:
		return 1
	}
	return 3
}

// need is an ink that a job needs, with all inks of the job.
type need struct {
	ink int
	job []int
}

// needsOf returns what jobs need, job by job.
func needsOf(jobs ...[]int) []need {
	var needs []need
	for _, job := range jobs {
		for _, ink := range job {
			needs = append(needs, need{ink, job})
		}
	}
	return needs
}

// washes returns the least number of washes for jobs in their order. What is left of a shop is a number of needs: they are met one by one, each on any station that has nothing for the same job.
func washes(stations int, jobs ...[]int) int {
	needs := needsOf(jobs...)
	w := washer{known: map[shop]int{}, after: func(s shop) iter.Seq2[shop, int] {
		return s.met(stations, needs[len(needs)-s.left])
	}}
	return w.least(shopOf(len(needs)))
}

// met yields the shops in which a need was met, and how many washes that took.
func (s shop) met(stations int, n need) iter.Seq2[shop, int] {
	return func(yield func(shop, int) bool) {
		next := shop{left: s.left - 1, inks: s.inks}
		if slices.Contains(next.inks[:], n.ink) {
			yield(next, 0)
			return
		}
		for station, ink := range next.inks[:stations] {
			wash := min(ink, 1) // as a station without an ink needs none
			if !slices.Contains(n.job, ink) && !yield(next.with(station, stations, n.ink), wash) {
				return
			}
		}
	}
}

// with returns the shop in which a station has an ink. The stations are put in order, as it is all one which of them has which ink.
func (s shop) with(station, stations, ink int) shop {
	s.inks[station] = ink
	slices.Sort(s.inks[:stations])
	return s
}
