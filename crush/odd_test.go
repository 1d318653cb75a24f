package crush_test

import (
	"math/rand"
	"slices"
	"testing"

	"testliner/api"
	"testliner/crush"
)

// canBeNear reports whether there is a truth in which no two readings differ by more than spread: all lie in a stretch that begins from low to high.
func canBeNear(readings []int, off, spread, low, high int) bool {
	for from := low; from <= high; from++ {
		far := func(x int) bool {
			s := truths(x, off)
			for truth := s.Low; truth <= s.High; truth++ {
				if from <= truth && truth <= from+spread {
					return false
				}
			}
			return true
		}
		if !slices.ContainsFunc(readings, far) {
			return true
		}
	}
	return false
}

// leastOdd tries all sets of readings that can be left out.
func leastOdd(readings []int, off, spread, low, high int) []int {
	var best []int
	for set := range 1 << len(readings) {
		var others []int
		for i, x := range readings {
			if set>>i&1 == 0 {
				others = append(others, x)
			}
		}
		list := chosen(set)
		if !canBeNear(others, off, spread, low, high) {
			continue
		}
		if set == 0 {
			return nil
		}
		if best == nil || len(list) < len(best) || len(list) == len(best) && slices.Compare(list, best) < 0 {
			best = list
		}
	}
	return best
}

// P3.4: the chapter's example, and the edges.
func TestOdd(t *testing.T) {
	for i, c := range []struct {
		readings    []int
		off, spread int
		odd         []int
	}{
		{n(100, 130, 104, 98), 5, 10, n(1)},
		{n(100, 120, 104, 100), 5, 10, nil},
		{n(100, 121, 104, 100), 5, 10, n(1)},
		{nil, 0, 0, nil},
		{n(), 1000, 100000, nil},
		{n(0), 0, 0, nil},
		{n(100000), 1000, 0, nil},
		{n(0, 100000), 0, 100000, nil},
		{n(0, 100000), 0, 99999, n(0)},
		{n(0, 100000), 1000, 98000, nil},
		{n(0, 100000), 1000, 97999, n(0)},
		{n(3, 3, 3, 9, 9, 9), 0, 5, n(0, 1, 2)},
		{n(3, 3, 3, 9, 9, 9), 0, 6, nil},
		{n(9, 3, 3, 9, 9, 3), 0, 5, n(0, 3, 4)},
		{n(3, 9, 9, 3), 0, 5, n(0, 3)},
		{n(1, 9, 5), 0, 4, n(0)},
		{n(9, 1, 5), 0, 4, n(0)},
		{n(5, 1, 9), 0, 4, n(1)},
		{n(5, 1, 20, 9, 40), 0, 4, n(1, 2, 4)},
		// Each two of three can be close, and all three can, too.
		{n(0, 10, 20), 5, 10, nil},
		{n(0, 10, 21), 5, 10, n(0)},
	} {
		if odd, e := crush.Odd(c.readings, c.off, c.spread); !slices.Equal(odd, c.odd) || e != api.OK {
			t.Error(i, odd, e)
		}
	}
	// All tests of a lot, none near another one: all but the last one are left out.
	far := make([]int, api.MaxCrushTests)
	for i := range far {
		far[i] = i * 5001
	}
	odd, e := crush.Odd(far, 1000, 3000)
	if want := chosen(1<<19 - 1); !slices.Equal(odd, want) || e != api.OK {
		t.Error(odd, e)
	}
	if odd, e = crush.Odd(far, 1000, 3001); !slices.Equal(odd, chosen(1<<18-1)) || e != api.OK {
		t.Error(odd, e)
	}
}

// P3.4: against all sets and truths, near 0, near the greatest reading, and between them.
func TestOddSets(t *testing.T) {
	r := rand.New(rand.NewSource(4))
	sizes := map[int]int{}
	for range 2000 {
		low := pick(r, 0, 500, api.MaxCrushRead-30)
		readings := make([]int, r.Intn(8))
		for i := range readings {
			readings[i] = some(r, low, low+30)
		}
		off, spread := r.Intn(6), r.Intn(12)
		odd, e := crush.Odd(readings, off, spread)
		want := leastOdd(readings, off, spread, max(0, low-40), low+40)
		if !slices.Equal(odd, want) || e != api.OK {
			t.Fatal(readings, off, spread, odd, want, e)
		}
		sizes[len(odd)]++
	}
	if len(sizes) < 5 {
		t.Error(sizes)
	}
}

// P3.12: the others are close in a truth, and with a greater spread, or a worse gauge, no more are left out.
func TestOddLess(t *testing.T) {
	r := rand.New(rand.NewSource(5))
	for range 2000 {
		readings := make([]int, r.Intn(api.MaxCrushTests+1))
		wide := pick(r, 20, 3000, api.MaxCrushRead)
		for i := range readings {
			readings[i] = r.Intn(wide + 1)
		}
		off, spread := r.Intn(min(api.MaxCrushOff, wide)+1), r.Intn(wide+1)
		odd, e := crush.Odd(readings, off, spread)
		if e != api.OK || !slices.IsSorted(odd) || len(readings) > 0 && len(odd) >= len(readings) {
			t.Fatal(readings, off, spread, odd, e)
		}
		least, most := api.MaxCrushRead, 0
		for i, x := range readings {
			if !slices.Contains(odd, i) {
				least, most = min(least, truths(x, off).High), max(most, truths(x, off).Low)
			}
		}
		if most-least > spread {
			t.Fatal(readings, off, spread, odd)
		}
		greater, _ := crush.Odd(readings, off, min(api.MaxCrushRead, spread+r.Intn(20)))
		worse, _ := crush.Odd(readings, min(api.MaxCrushOff, off+r.Intn(20)), spread)
		if len(greater) > len(odd) || len(worse) > len(odd) {
			t.Fatal(readings, off, spread, odd, greater, worse)
		}
	}
}
