package crush_test

import (
	"math/rand"
	"slices"
	"testing"

	"testliner/api"
	"testliner/crush"
)

// cases returns numbers of a span: all of a small one, else those next to where being below Low changes.
func cases(s api.Span, low int) []int {
	var list []int
	if s.High-s.Low < 4 {
		for t := s.Low; t <= s.High; t++ {
			list = append(list, t)
		}
		return list
	}
	for _, t := range n(s.Low, s.High, low-1, low) {
		if s.Low <= t && t <= s.High && !slices.Contains(list, t) {
			list = append(list, t)
		}
	}
	return list
}

// known returns what is known of a lot: each truth is tried, of wide spans those that have the least or the greatest sum with so many below Low.
func known(r api.CrushRule, readings []int, off int) api.CrushState {
	pass, fail := false, false
	var try func(test, sum, bad int)
	try = func(test, sum, bad int) {
		if test == r.Tests {
			ok := sum >= r.Tests*r.Mean && bad <= r.Bad
			pass, fail = pass || ok, fail || !ok
			return
		}
		s := to(0, api.MaxCrushRead)
		if test < len(readings) {
			s = truths(readings[test], off)
		}
		for _, t := range cases(s, r.Low) {
			if t < r.Low {
				try(test+1, sum+t, bad+1)
			} else {
				try(test+1, sum+t, bad)
			}
		}
	}
	try(0, 0, 0)
	switch {
	case !fail:
		return api.CrushPass
	case !pass:
		return api.CrushFail
	}
	return api.CrushOpen
}

// fewest returns the least number of tests more after which a lot is known to be in a state, with readings next to where something changes.
func fewest(r api.CrushRule, readings []int, off int, state api.CrushState) int {
	var reads []int
	for _, x := range n(0, api.MaxCrushRead, r.Low, r.Low-off, r.Low+off, r.Low-off-1, r.Mean, r.Mean+off) {
		if 0 <= x && x <= api.MaxCrushRead && !slices.Contains(reads, x) {
			reads = append(reads, x)
		}
	}
	var can func(list []int, more, from int) bool
	can = func(list []int, more, from int) bool {
		if more == 0 {
			return known(r, list, off) == state
		}
		// In which order tests read does not count.
		for i := from; i < len(reads); i++ {
			if can(append(slices.Clone(list), reads[i]), more-1, i) {
				return true
			}
		}
		return false
	}
	for more := range r.Tests - len(readings) + 1 {
		if can(readings, more, 0) {
			return more
		}
	}
	return -1
}

// someLot returns a rule with at most so many tests, readings that nearly decide it, and a gauge.
func someLot(r *rand.Rand, tests int) (api.CrushRule, []int, int) {
	off := pick(r, 0, 1, 2, 5, 1000)
	mean := pick(r, 0, 5, 100, 33333, 50000, 66667, 99000, 99500, 100000)
	x := api.CrushRule{Tests: some(r, 1, tests), Mean: mean}
	x.Low = pick(r, 0, mean, max(0, mean-3), min(100000, mean+2), 100000, 99000, 1000, 1001, 1)
	x.Bad = pick(r, 0, x.Tests, r.Intn(x.Tests+1))
	var readings []int
	for range r.Intn(x.Tests + 1) {
		readings = append(readings, pick(r, 0, api.MaxCrushRead, min(api.MaxCrushRead, max(0, x.Low+some(r, -6, 6))), min(api.MaxCrushRead, max(0, mean+some(r, -6, 6))), min(api.MaxCrushRead, mean+off), max(0, mean-off)))
	}
	return x, readings, off
}

// P3.2, P3.3: the chapter's examples, and the edges of what decides.
func TestDecide(t *testing.T) {
	high := api.CrushRule{Tests: 3, Mean: 99500, Low: 99100, Bad: 0}
	for i, c := range []struct {
		r          api.CrushRule
		readings   []int
		off        int
		s          api.CrushState
		pass, fail int
	}{
		{chapterRule(), n(120, 110, 90), 5, api.CrushOpen, 1, 2},
		{chapterRule(), n(120, 110, 70, 60), 5, api.CrushFail, -1, 0},
		// 75 can truly be 80, which is not below 80, and 74 can't.
		{chapterRule(), n(120, 75, 75), 5, api.CrushOpen, -1, 2},
		{chapterRule(), n(120, 75, 74), 5, api.CrushOpen, -1, 1},
		{chapterRule(), n(120, 74, 74), 5, api.CrushFail, -1, 0},
		// 85 is surely 80 or more, 84 is not.
		{chapterRule(), n(200, 200, 200, 84, 85), 5, api.CrushPass, 0, -1},
		{chapterRule(), n(200, 200, 200, 84, 84), 5, api.CrushOpen, -1, -1},
		// The sum is just great enough, or 1 too small.
		{chapterRule(), n(105, 105, 105, 105, 105), 5, api.CrushPass, 0, -1},
		{chapterRule(), n(105, 105, 105, 105, 104), 5, api.CrushOpen, -1, -1},
		{chapterRule(), n(95, 95, 95, 95, 95), 5, api.CrushOpen, -1, -1},
		{chapterRule(), n(95, 95, 95, 95, 94), 5, api.CrushFail, -1, 0},
		// A test that is not made can be 0, or 100000.
		{api.CrushRule{Tests: 2, Mean: 50, Low: 0}, n(100), 0, api.CrushPass, 0, -1},
		{api.CrushRule{Tests: 2, Mean: 50, Low: 0}, n(99), 0, api.CrushOpen, 1, 1},
		{api.CrushRule{Tests: 2, Mean: 50, Low: 1}, n(100), 0, api.CrushOpen, 1, 1},
		{api.CrushRule{Tests: 2, Mean: 50, Low: 1, Bad: 1}, n(100), 0, api.CrushPass, 0, -1},
		{api.CrushRule{Tests: 2, Mean: 100000}, n(99999), 0, api.CrushFail, -1, 0},
		{api.CrushRule{Tests: 2, Mean: 100000}, n(99999), 1, api.CrushOpen, -1, 1},
		{api.CrushRule{Tests: 2, Mean: 60000}, n(20000), 0, api.CrushOpen, 1, 1},
		{api.CrushRule{Tests: 2, Mean: 60000}, n(19999), 0, api.CrushFail, -1, 0},
		// A reading of 100000 can truly be off less, one of 0 off more.
		{high, nil, 400, api.CrushOpen, 3, 1},
		{high, nil, 501, api.CrushOpen, -1, 1},
		{high, nil, 901, api.CrushOpen, -1, 1},
		{api.CrushRule{Tests: 3, Mean: 0, Low: 900, Bad: 1}, nil, 899, api.CrushOpen, 2, 2},
		{api.CrushRule{Tests: 3, Mean: 0, Low: 900, Bad: 1}, nil, 900, api.CrushOpen, 2, -1},
		// What can be true goes from 0 to 100000, not further.
		{api.CrushRule{Tests: 2, Mean: 100000}, n(100000, 100000), 1000, api.CrushOpen, -1, -1},
		{api.CrushRule{Tests: 2, Mean: 100000}, n(100000, 98999), 1000, api.CrushFail, -1, 0},
		{api.CrushRule{Tests: 2, Mean: 500}, n(0, 2000), 1000, api.CrushPass, 0, -1},
		// All tests can be bad, or none may be.
		{api.CrushRule{Tests: 20, Mean: 0, Low: 100000, Bad: 20}, nil, 1000, api.CrushPass, 0, -1},
		{api.CrushRule{Tests: 20, Mean: 0, Low: 100000, Bad: 19}, nil, 0, api.CrushOpen, 1, 20},
		{api.CrushRule{Tests: 20, Mean: 0, Low: 100000, Bad: 19}, nil, 1, api.CrushOpen, -1, 20},
		{api.CrushRule{Tests: 20, Mean: 100000, Low: 100000, Bad: 20}, slices.Repeat(n(100000), 19), 0, api.CrushOpen, 1, 1},
		{api.CrushRule{Tests: 20, Mean: 50000, Low: 0, Bad: 0}, nil, 0, api.CrushOpen, 10, 11},
		{api.CrushRule{Tests: 20, Mean: 50000, Low: 1, Bad: 9}, nil, 0, api.CrushOpen, 11, 10},
	} {
		s, e := crush.Decide(c.r, c.readings, c.off)
		pass, fail, f := crush.Need(c.r, c.readings, c.off)
		if s != c.s || e != api.OK || pass != c.pass || fail != c.fail || f != api.OK {
			t.Error(i, s, e, pass, fail, f)
		}
	}
}

// P3.2, P3.3: against all truths, and all readings that tests can still have.
func TestDecideTruths(t *testing.T) {
	r := rand.New(rand.NewSource(1))
	seen := map[api.CrushState]int{}
	for range 3000 {
		x, readings, off := someLot(r, 5)
		s, e := crush.Decide(x, readings, off)
		if s != known(x, readings, off) || e != api.OK {
			t.Fatal(x, readings, off, s, e)
		}
		seen[s]++
	}
	if len(seen) != 3 || min(seen[api.CrushPass], seen[api.CrushFail], seen[api.CrushOpen]) < 200 {
		t.Error(seen)
	}
	needs := map[int]int{}
	for range 500 {
		x, readings, off := someLot(r, 4)
		pass, fail, e := crush.Need(x, readings, off)
		if pass != fewest(x, readings, off, api.CrushPass) || fail != fewest(x, readings, off, api.CrushFail) || e != api.OK {
			t.Fatal(x, readings, off, pass, fail, e)
		}
		needs[pass]++
		needs[fail]++
	}
	for need := -1; need <= 3; need++ {
		if needs[need] == 0 {
			t.Error(needs)
		}
	}
}

// P3.10: what is sure holds in each truth, and stays so with more readings; with an exact gauge nothing is open in the end.
func TestSure(t *testing.T) {
	r := rand.New(rand.NewSource(2))
	for range 3000 {
		x, readings, off := someLot(r, api.MaxCrushTests)
		s, _ := crush.Decide(x, readings, off)
		for range 5 {
			sum, bad := 0, 0
			for test := range x.Tests {
				truth := pick(r, 0, api.MaxCrushRead, x.Low, max(0, x.Low-1), some(r, 0, api.MaxCrushRead))
				if test < len(readings) {
					truth = some(r, truths(readings[test], off).Low, truths(readings[test], off).High)
				}
				sum += truth
				if truth < x.Low {
					bad++
				}
			}
			if passes := sum >= x.Tests*x.Mean && bad <= x.Bad; s == api.CrushPass && !passes || s == api.CrushFail && passes {
				t.Fatal(x, readings, off, s)
			}
		}
		for len(readings) < x.Tests {
			readings = append(readings, pick(r, 0, api.MaxCrushRead, x.Low, x.Mean, some(r, 0, api.MaxCrushRead)))
			next, e := crush.Decide(x, readings, off)
			if e != api.OK || s != api.CrushOpen && next != s {
				t.Fatal(x, readings, off, s, next)
			}
			s = next
		}
		if exact, _ := crush.Decide(x, readings, 0); exact == api.CrushOpen {
			t.Fatal(x, readings)
		}
	}
}

// P3.11: fewer tests than Need says decide nothing, whatever they read, and so many that read the greatest number, or 0, decide.
func TestNeedIsLeast(t *testing.T) {
	r := rand.New(rand.NewSource(3))
	for range 2000 {
		x, readings, off := someLot(r, api.MaxCrushTests)
		pass, fail, e := crush.Need(x, readings, off)
		if e != api.OK {
			t.Fatal(x, readings, off, e)
		}
		for _, c := range []struct {
			state      api.CrushState
			need, read int
		}{{api.CrushPass, pass, api.MaxCrushRead}, {api.CrushFail, fail, 0}} {
			left := x.Tests - len(readings)
			if c.need < -1 || c.need > left {
				t.Fatal(x, readings, off, c)
			}
			if c.need >= 0 {
				s, _ := crush.Decide(x, append(slices.Clone(readings), slices.Repeat(n(c.read), c.need)...), off)
				if s != c.state {
					t.Fatal(x, readings, off, c, s)
				}
				left = c.need - 1
			}
			for range 5 * min(1, left+1) {
				list := slices.Clone(readings)
				for range left {
					list = append(list, pick(r, c.read, c.read, x.Low, x.Mean, some(r, 0, api.MaxCrushRead)))
				}
				if s, _ := crush.Decide(x, list, off); s == c.state {
					t.Fatal(x, readings, off, c, list)
				}
			}
		}
	}
}
