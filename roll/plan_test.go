package roll_test

import (
	"math/big"
	"math/rand"
	"slices"
	"testing"

	"testliner/api"
	"testliner/roll"
)

// P7.9: the chapter's examples; the fewest rolls, and of these the smallest list.
func TestPlanExamples(t *testing.T) {
	four := stand(1, 1, 0, to(10, 12), to(30, 30), to(20, 20), to(50, 50))
	same := stand(1, 1, 0, slices.Repeat(list(to(10, 10)), 6)...)
	for i, c := range []struct {
		s       api.RollStand
		orders  []api.RollOrder
		numbers []int
		e       api.Errno
	}{
		{chapterStand(), list(whole(1500), order(500), whole(3900)), nil, api.ErrState},
		{chapterStand(), list(whole(1500), order(500), order(3900)), list(0, 1), api.OK},
		{chapterStand(), list(whole(1500), order(500), whole(2000)), list(1), api.OK},
		{chapterStand(), list(whole(4000), whole(2000)), list(1, 0), api.OK},
		{chapterStand(), list(whole(4001)), nil, api.ErrState},
		{chapterStand(), list(order(6000)), list(0, 1), api.OK},
		{chapterStand(), list(order(6001)), nil, api.ErrState},
		{chapterStand(), nil, nil, api.OK},
		{four, list(order(10)), list(0), api.OK},
		{four, list(order(11)), list(1), api.OK},
		{four, list(whole(31)), list(3), api.OK},
		{four, list(order(51)), list(0, 3), api.OK},
		{four, list(whole(51)), nil, api.ErrState},
		{four, list(whole(50), whole(10)), list(3, 0), api.OK},
		{four, list(whole(20), whole(30), whole(31)), list(2, 1, 3), api.OK},
		{four, list(whole(20), whole(30), whole(50), whole(10)), list(2, 1, 3, 0), api.OK},
		{four, list(order(20), order(30), order(50), order(10)), list(0, 1, 2, 3), api.OK},
		{four, list(order(101)), list(0, 1, 2, 3), api.OK},
		{four, list(order(111)), nil, api.ErrState},
		// A roll of which it is not known how long it is can only be the last one, or end in an order that need not be whole.
		{four, list(whole(30), whole(10), whole(20)), list(1, 3), api.OK},
		{four, list(whole(10), whole(50)), nil, api.ErrState},
		{four, list(whole(10), order(2), whole(48)), list(0, 3), api.OK},
		{four, list(whole(10), order(1), whole(49)), nil, api.ErrState},
		{same, slices.Repeat(list(whole(10)), 6), list(0, 1, 2, 3, 4, 5), api.OK},
		{same, list(whole(10), whole(5), whole(5)), list(0, 1), api.OK},
		{same, list(whole(9), whole(9)), nil, api.ErrState},
		{same, list(order(61)), nil, api.ErrState},
		{stand(1, 1, 0), nil, nil, api.OK},
		{stand(1, 1, 0), list(order(1)), nil, api.ErrState},
		{stand(1, 1, 0, to(6, 6), to(5, 5), to(4, 4), to(3, 3), to(2, 2), to(1, 1)), list(whole(1), whole(2), whole(3), whole(4), whole(5), whole(6)), list(5, 4, 3, 2, 1, 0), api.OK},
		{stand(1, 1, 0, to(1, 1), to(2, 2), to(3, 3), to(4, 4), to(5, 5), to(6, 6)), list(whole(6), whole(5), whole(4), whole(3), whole(2), whole(1)), list(5, 4, 3, 2, 1, 0), api.OK},
		{greatestStand(), slices.Repeat(list(whole(5000000)), 6), list(0, 1, 2, 3, 4, 5), api.OK},
		{greatestStand(), slices.Repeat(list(whole(5000000)), 10), nil, api.ErrState},
	} {
		if numbers, e := roll.Plan(c.s, c.orders); !slices.Equal(numbers, c.numbers) || e != c.e {
			t.Error(i, numbers, e)
		}
	}
}

// rollOrders returns orders for some rolls in some order, one whole order for a roll, and now and then one more where the splice lies.
func rollOrders(r *rand.Rand, s api.RollStand) []api.RollOrder {
	var orders []api.RollOrder
	for _, i := range r.Perm(len(s.Rolls))[:r.Intn(len(s.Rolls)+1)] {
		long := down(new(big.Rat).Quo(rat(s.Rolls[i].Low-s.Tail), up(s))) + pick(r, 0, 0, 0, 1, -1)
		orders = append(orders, api.RollOrder{Long: max(1, long), Whole: r.Intn(6) > 0})
		if r.Intn(3) > 0 {
			orders = append(orders, order(some(r, 1, 5)))
		}
	}
	return orders
}

// P7.9, P7.13: the first of all lists, the shorter ones first, with which no order goes wrong in any truth.
func TestPlan(t *testing.T) {
	r := rand.New(rand.NewSource(10))
	sizes := map[int]int{}
	for n := range 3000 {
		s := someStand(r, 4)
		orders := someOrders(r, 4, pick(r, 2, 4, 6))
		if n%2 == 0 {
			orders = rollOrders(r, s)
		}
		var want []int
		found := false
		for _, numbers := range orderings(len(s.Rolls)) {
			if _, _, e := trueFault(with(s, numbers), orders); e == api.ErrNone {
				want, found = numbers, true
				break
			}
		}
		numbers, e := roll.Plan(s, orders)
		if !slices.Equal(numbers, want) || (e == api.OK) != found || e != api.OK && e != api.ErrState {
			t.Fatal(s, orders, numbers, e, want)
		}
		if e != api.OK {
			sizes[-1]++
		} else {
			sizes[len(numbers)]++
		}
	}
	if len(sizes) < 5 || sizes[-1] < 100 || sizes[2] < 100 || sizes[3] < 40 || sizes[4] < 10 {
		t.Error(sizes)
	}
}

// P7.13: with up to six rolls nothing goes wrong with those of Plan; with fewer ones, or before them, something can.
func TestPlanOfMany(t *testing.T) {
	r := rand.New(rand.NewSource(11))
	sizes := map[int]int{}
	for n := range 150 {
		// The rolls are about as long as the orders, so that lists of many rolls are needed, and found.
		s, orders := largeStand(r), someOrders(r, 10, pick(r, 1000, 1000000, 5000000))
		if n%3 > 0 {
			s = api.RollStand{Up: s.Up, Tail: 3}
			for range 6 {
				s.Rolls = append(s.Rolls, someSpan(r, 1000, 1300, pick(r, 0, 60)))
			}
			orders = nil
			for range 9 {
				orders = append(orders, api.RollOrder{Long: some(r, 200, 400), Whole: r.Intn(4) == 0})
			}
		}
		numbers, e := roll.Plan(s, orders)
		if e == api.OK {
			sizes[len(numbers)]++
		}
		for _, other := range orderings(len(s.Rolls)) {
			_, _, f := roll.Fault(with(s, other), orders)
			if slices.Equal(numbers, other) && e == api.OK {
				if f != api.ErrNone {
					t.Error(s, orders, numbers, f)
				}
				break
			}
			if f == api.ErrNone {
				t.Error(s, orders, numbers, e, other)
				break
			}
		}
	}
	if len(sizes) < 4 {
		t.Error(sizes)
	}
}
