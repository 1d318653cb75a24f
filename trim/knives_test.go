package trim_test

import (
	"math/bits"
	"math/rand"
	"slices"
	"testing"

	"testliner/api"
	"testliner/trim"
)

// somePlaces returns so many places at most, near each other or far.
func somePlaces(r *rand.Rand, most int) []int {
	wide := pick(r, 12, 900, 3000)
	start := some(r, 0, 3000-wide)
	var places []int
	for range r.Intn(most + 1) {
		places = append(places, start+r.Intn(wide+1))
	}
	slices.Sort(places)
	return slices.Compact(places)
}

// leastChange returns the least cost of all ways to choose knives that move, and places that they go to, in their order.
func leastChange(from, to []int) int {
	least := -1
	for some := range 1 << len(from) {
		for others := range 1 << len(to) {
			if bits.OnesCount(uint(some)) != bits.OnesCount(uint(others)) {
				continue
			}
			moving, places := chosen(some), chosen(others)
			cost := 500 * (len(from) - len(moving) + len(to) - len(places))
			for i := range moving {
				cost += max(from[moving[i]]-to[places[i]], to[places[i]]-from[moving[i]])
			}
			if least < 0 || cost < least {
				least = cost
			}
		}
	}
	return least
}

// P4.4: the chapter's change, and others, there and back.
func TestChangeExamples(t *testing.T) {
	for i, c := range []struct {
		from, to []int
		cost     int
	}{
		{n(100, 900, 1700, 2400), n(50, 1250, 2450), 950},
		{nil, nil, 0},
		{n(7), nil, 500},
		{n(0, 1, 2, 3, 4, 5, 6, 7, 8, 9), nil, 5000},
		{n(0), n(3000), 1000},
		{n(0), n(999), 999},
		{n(0), n(1001), 1000},
		{n(0, 100), n(100), 500},
		{n(100, 200, 300), n(200, 300, 400), 300},
		{n(100, 2000), n(2000, 2900), 1000},
		// The knife at 0 cannot pass the one at 10: both move a little.
		{n(0, 10), n(10, 20), 20},
		{n(0, 1, 2, 3, 4, 5, 6, 7, 8, 9), n(10, 11, 12, 13, 14, 15, 16, 17, 18, 19), 100},
	} {
		for _, way := range [][2][]int{{c.from, c.to}, {c.to, c.from}} {
			if cost, e := trim.Change(way[0], way[1]); cost != c.cost || e != api.OK {
				t.Error(i, cost, e)
			}
		}
	}
}

// P4.4: no way to move knives costs less.
func TestChangeAgainstAllWays(t *testing.T) {
	r := rand.New(rand.NewSource(44))
	for range 400 {
		from, to := somePlaces(r, 6), somePlaces(r, 6)
		if cost, e := trim.Change(from, to); cost != leastChange(from, to) || e != api.OK {
			t.Fatal(from, to, cost, leastChange(from, to), e)
		}
	}
	for range 3 {
		from, to := somePlaces(r, 10), somePlaces(r, 10)
		if cost, e := trim.Change(from, to); cost != leastChange(from, to) || e != api.OK {
			t.Fatal(from, to, cost, leastChange(from, to), e)
		}
	}
}

// P4.13: from places to the same ones nothing is moved, the way back costs as much, and by other places between it costs no less.
func TestChangeProperties(t *testing.T) {
	r := rand.New(rand.NewSource(413))
	cost := func(from, to []int) int {
		cost, e := trim.Change(from, to)
		if e != api.OK {
			t.Fatal(from, to, e)
		}
		return cost
	}
	for range 3000 {
		a, b, c := somePlaces(r, 10), somePlaces(r, 10), somePlaces(r, 10)
		if cost(a, a) != 0 || cost(a, b) != cost(b, a) || cost(a, b)+cost(b, c) < cost(a, c) {
			t.Fatal(a, b, c)
		}
	}
}
