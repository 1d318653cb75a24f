package roll_test

import (
	"math/big"
	"math/rand"
	"slices"
	"testing"

	"testliner/api"
	"testliner/roll"
)

// P7.7: the chapter's example, and the edges.
func TestRestsExamples(t *testing.T) {
	three := stand(1, 1, 5, to(10, 20), to(10, 20), to(10, 20))
	for i, c := range []struct {
		s      api.RollStand
		orders []api.RollOrder
		rests  []api.Span
		e      api.Errno
	}{
		{chapterStand(), list(order(2000), whole(1000), order(2500)), list(to(100, 100), to(850, 910)), api.OK},
		{chapterStand(), nil, list(to(3100, 3160), to(6100, 6100)), api.OK},
		// 1.5 is rounded up to 2; 1 and 1 are used together, and use 3.
		{chapterStand(), list(order(1)), list(to(3098, 3158), to(6100, 6100)), api.OK},
		{chapterStand(), list(order(1), order(1)), list(to(3097, 3157), to(6100, 6100)), api.OK},
		{chapterStand(), list(order(2000)), list(to(100, 160), to(6100, 6100)), api.OK},
		{chapterStand(), list(order(2001)), list(to(100, 158), to(6098, 6100)), api.OK},
		{chapterStand(), list(order(2040)), list(to(100, 100), to(6040, 6100)), api.OK},
		{chapterStand(), list(order(2041)), list(to(100, 100), to(6038, 6098)), api.OK},
		// The paper lasts in some truths only.
		{chapterStand(), list(order(6000)), list(to(100, 100), to(100, 160)), api.OK},
		{chapterStand(), list(order(6030)), list(to(100, 100), to(100, 115)), api.OK},
		{chapterStand(), list(order(6040)), list(to(100, 100), to(100, 100)), api.OK},
		{chapterStand(), list(order(6041)), nil, api.ErrState},
		{chapterStand(), list(order(3000), order(3041)), nil, api.ErrState},
		{three, list(order(5)), list(to(5, 15), to(10, 20), to(10, 20)), api.OK},
		{three, list(order(10)), list(to(5, 10), to(5, 20), to(10, 20)), api.OK},
		{three, list(order(18)), list(to(5, 5), to(5, 17), to(5, 20)), api.OK},
		{three, list(order(29)), list(to(5, 5), to(5, 6), to(5, 20)), api.OK},
		{three, list(order(45)), list(to(5, 5), to(5, 5), to(5, 5)), api.OK},
		{three, list(order(44)), list(to(5, 5), to(5, 5), to(5, 6)), api.OK},
		{three, list(order(46)), nil, api.ErrState},
		{stand(1, 1, 0), nil, nil, api.OK},
		{stand(1, 1, 0), list(order(1)), nil, api.ErrState},
		{stand(1, 1, 0, to(1, 1)), list(order(1)), list(to(0, 0)), api.OK},
		{greatestStand(), slices.Repeat(list(order(5000000)), 6), slices.Repeat(list(to(0, 0)), 6), api.OK},
		{greatestStand(), slices.Repeat(list(order(5000000)), 10), nil, api.ErrState},
		{greatestStand(), append(slices.Repeat(list(order(5000000)), 2), order(1)), append(list(to(0, 0), to(0, 0), to(9999998, 9999998)), slices.Repeat(list(to(10000000, 10000000)), 3)...), api.OK},
	} {
		if rests, e := roll.Rests(c.s, c.orders); !slices.Equal(rests, c.rests) || e != c.e {
			t.Error(i, rests, e)
		}
	}
}

// P7.7: against all truths in which the paper lasts.
func TestRests(t *testing.T) {
	r := rand.New(rand.NewSource(7))
	lasts := map[bool]int{}
	for range 2500 {
		s := someStand(r, 4)
		orders := someOrders(r, 4, pick(r, 2, 5, 9))
		want := trueRests(s, orders)
		rests, e := roll.Rests(s, orders)
		if !slices.Equal(rests, want) || (e == api.OK) != (want != nil) || e != api.OK && e != api.ErrState {
			t.Fatal(s, orders, rests, e, want)
		}
		lasts[e == api.OK]++
	}
	if lasts[true] < 500 || lasts[false] < 200 {
		t.Error(lasts)
	}
}

// corners returns truths of a stand with all rolls at ends of their spans, but for one at most, with which the paper is used up.
func corners(s api.RollStand, need int) [][]int {
	var all [][]int
	for set := range 1 << len(s.Rolls) {
		var lengths []int
		usable := 0
		for i, roll := range s.Rolls {
			lengths = append(lengths, list(roll.Low, roll.High)[set>>i&1])
			usable += lengths[i] - s.Tail
		}
		all = append(all, lengths)
		for i := range lengths {
			exact := slices.Clone(lengths)
			exact[i] += need - usable
			if within(exact, s.Rolls) {
				all = append(all, exact)
			}
		}
	}
	return all
}

// P7.7: with large numbers: what is least and most of each roll is so in a corner of the truths, as more of one roll leaves no less of any.
func TestLargeRests(t *testing.T) {
	r := rand.New(rand.NewSource(8))
	last := 0
	for range 1500 {
		s, orders := largeStand(r), someOrders(r, 10, pick(r, 1000, 1000000, 5000000))
		var want []api.Span
		for _, lengths := range corners(s, over(new(big.Rat).Mul(rat(total(orders)), up(s)))) {
			if left, enough := trueLeft(s, orders, lengths); enough {
				want = widen(want, left)
			}
		}
		rests, e := roll.Rests(s, orders)
		if !slices.Equal(rests, want) || (e == api.OK) != (want != nil) || e != api.OK && e != api.ErrState {
			t.Fatal(s, orders, rests, e, want)
		}
		if e == api.OK && len(orders) > 0 {
			last++
		}
	}
	if last < 300 {
		t.Error(last)
	}
}

// P7.11, P7.12: in each truth in which the paper lasts what is used and what is left is what was usable, and what is left lies in Rests.
func TestConserved(t *testing.T) {
	r := rand.New(rand.NewSource(9))
	last := 0
	for n := range 3000 {
		s, orders := largeStand(r), someOrders(r, 10, pick(r, 1000, 100000, 5000000))
		if n%2 == 0 {
			s, orders = someStand(r, 6), someOrders(r, 3, 4)
		}
		lengths := someTruth(r, s)
		left, e := roll.Rests(exactly(s, lengths), orders)
		if enough := trueEnd(s, lengths).Cmp(rat(total(orders))) >= 0; (e == api.OK) != enough {
			t.Error(s, lengths, orders, left, e)
		}
		if e != api.OK {
			continue
		}
		last++
		rests, e := roll.Rests(s, orders)
		if e != api.OK || len(left) != len(lengths) || len(rests) != len(lengths) {
			t.Fatal(s, lengths, orders, left, rests, e)
		}
		rest := over(new(big.Rat).Mul(rat(total(orders)), up(s)))
		for i, x := range left {
			rest += x.Low - lengths[i]
			if x.Low != x.High || !within(list(x.Low), rests[i:i+1]) {
				t.Error(s, lengths, orders, left, rests)
			}
		}
		if rest != 0 {
			t.Error(s, lengths, orders, left, rest)
		}
	}
	if last < 500 {
		t.Error(last)
	}
}
