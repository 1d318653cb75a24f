package roll_test

import (
	"math/big"
	"math/rand"
	"slices"
	"testing"

	"testliner/api"
	"testliner/roll"
)

// P7.3, P7.4: the chapter's example, and the edges.
func TestSplicesExamples(t *testing.T) {
	for i, c := range []struct {
		s       api.RollStand
		splices []api.Span
		lasts   api.Span
	}{
		{chapterStand(), list(to(2000, 2040), to(6000, 6040)), to(6000, 6040)},
		{stand(1, 1, 0), nil, to(0, 0)},
		{stand(3, 2, 10000), nil, to(0, 0)},
		{stand(1, 1, 0, to(1, 1)), list(to(1, 1)), to(1, 1)},
		// 0.5 to 1, and 1 to 2.5.
		{stand(2, 1, 9, to(10, 11), to(10, 12)), list(to(0, 1), to(1, 2)), to(1, 2)},
		// Rounded down once, at the end: 0.6, 1.2, 1.8, 2.4.
		{stand(5, 3, 0, to(1, 1), to(1, 1), to(1, 1), to(1, 1)), list(to(0, 0), to(1, 1), to(1, 1), to(2, 2)), to(2, 2)},
		// Not in lowest terms.
		{stand(6, 4, 100, to(3100, 3160), to(6100, 6100)), list(to(2000, 2040), to(6000, 6040)), to(6000, 6040)},
		{stand(10000, 10000, 10000, to(10001, 10000000)), list(to(1, 9990000)), to(1, 9990000)},
		{greatestStand(), list(to(5000000, 5000000), to(10000000, 10000000), to(15000000, 15000000), to(20000000, 20000000), to(25000000, 25000000), to(30000000, 30000000)), to(30000000, 30000000)},
		{stand(19999, 10000, 0, to(10000000, 10000000)), list(to(5000250, 5000250)), to(5000250, 5000250)},
	} {
		splices, e := roll.Splices(c.s)
		lasts, f := roll.Lasts(c.s)
		if !slices.Equal(splices, c.splices) || lasts != c.lasts || e != api.OK || f != api.OK {
			t.Error(i, splices, e, lasts, f)
		}
	}
}

// P7.3, P7.4: from the least to the greatest place over all truths.
func TestSplices(t *testing.T) {
	r := rand.New(rand.NewSource(2))
	for range 600 {
		s := someStand(r, 4)
		var want []api.Span
		for _, lengths := range allTruths(s) {
			var places []int
			for _, place := range truePlaces(s, lengths) {
				places = append(places, down(place))
			}
			want = widen(want, places)
		}
		end := to(0, 0)
		if len(s.Rolls) > 0 {
			end = want[len(want)-1]
		}
		splices, e := roll.Splices(s)
		lasts, f := roll.Lasts(s)
		if !slices.Equal(splices, want) || lasts != end || e != api.OK || f != api.OK {
			t.Fatal(s, splices, e, lasts, f, want)
		}
	}
}

// P7.5, P7.6: the chapter's example; a splice at an edge of an order lies in neither; the first order that goes wrong.
func TestFaultExamples(t *testing.T) {
	five := stand(5, 3, 0, to(1, 4), to(90, 90)) // the splice lies at 0.6, 1.2, 1.8 or 2.4
	three := stand(1, 1, 0, to(3, 5), to(3, 3), to(9, 9))
	for i, c := range []struct {
		s             api.RollStand
		orders        []api.RollOrder
		lies          [][]int
		order, splice int
		e             api.Errno
	}{
		{chapterStand(), list(order(2000), order(1000), order(2500)), list(list(1)), 0, 0, api.ErrNone},
		{chapterStand(), list(order(2000), whole(1000), order(2500)), list(list(1)), 1, 0, api.OK},
		{chapterStand(), list(whole(2000), order(1000), whole(2500)), list(list(1)), 0, 0, api.ErrNone},
		{chapterStand(), list(whole(2001), order(1000)), list(list(0, 1)), 0, 0, api.OK},
		{chapterStand(), list(order(2039), whole(1)), list(list(0, 1)), 1, 0, api.OK},
		{chapterStand(), list(order(2040), whole(1)), list(list(0)), 0, 0, api.ErrNone},
		{chapterStand(), list(order(2000), order(40), whole(9)), list(list(1)), 0, 0, api.ErrNone},
		// Many orders: the splice can lie in some of them only.
		{chapterStand(), list(order(1999), order(1), order(1), order(30), order(8), order(1), order(2000)), list(list(2, 3, 4, 5)), 0, 0, api.ErrNone},
		// The end of the paper is no splice in an order, but the paper does not last.
		{chapterStand(), list(order(6000)), list(list(0)), 0, 0, api.ErrNone},
		{chapterStand(), list(order(6001)), list(list(0)), 0, -1, api.OK},
		{chapterStand(), list(order(3000), whole(3000)), list(list(0)), 0, 0, api.ErrNone},
		{chapterStand(), list(order(3000), whole(3001)), list(list(0)), 1, -1, api.OK},
		{chapterStand(), list(order(3000), order(4000), whole(9)), list(list(0)), 1, -1, api.OK},
		{stand(1, 1, 0, to(5, 5)), list(whole(9)), nil, 0, -1, api.OK},
		{stand(1, 1, 0, to(5, 5)), list(whole(5)), nil, 0, 0, api.ErrNone},
		// A splice is named though the paper does not last either, but only if the order must be whole.
		{chapterStand(), list(whole(9000)), list(list(0)), 0, 0, api.OK},
		{chapterStand(), list(order(9000)), list(list(0)), 0, -1, api.OK},
		// The smallest splice.
		{three, list(whole(9)), list(list(0), list(0)), 0, 0, api.OK},
		{three, list(order(5), whole(4)), list(list(0), list(1)), 1, 1, api.OK},
		{three, list(order(4), whole(4)), list(list(0, 1), list(1)), 1, 0, api.OK},
		{three, list(whole(3), order(5), whole(7)), list(list(1), list(1)), 0, 0, api.ErrNone},
		{three, list(whole(3), order(5), whole(8)), list(list(1), list(1)), 2, -1, api.OK},
		{three, list(whole(3), order(4), whole(7)), list(list(1), list(1, 2)), 2, 1, api.OK},
		// Orders between two places of a splice: nothing lies in an order of 1 if all places are integers.
		{three, list(order(3), whole(1), whole(1), whole(9)), list(nil, list(3)), 3, 1, api.OK},
		{five, list(order(1), order(1), order(1)), list(list(0, 1, 2)), 0, 0, api.ErrNone},
		{five, list(whole(1), order(1), order(1)), list(list(0, 1, 2)), 0, 0, api.OK},
		{five, list(order(1), whole(1), order(1)), list(list(0, 1, 2)), 1, 0, api.OK},
		{five, list(order(1), order(1), whole(1)), list(list(0, 1, 2)), 2, 0, api.OK},
		{five, list(order(3), whole(1)), list(list(0)), 0, 0, api.ErrNone},
		{chapterStand(), nil, list[[]int](nil), 0, 0, api.ErrNone},
		{stand(1, 1, 0), nil, nil, 0, 0, api.ErrNone},
		{stand(1, 1, 0), list(order(1), whole(1)), nil, 0, -1, api.OK},
		{stand(1, 1, 0), list(whole(1)), nil, 0, -1, api.OK},
		// The greatest numbers: rolls of 5000000 of board, and orders that are as long.
		{greatestStand(), slices.Repeat(list(whole(5000000)), 6), make([][]int, 5), 0, 0, api.ErrNone},
		{greatestStand(), slices.Repeat(list(whole(5000000)), 7), make([][]int, 5), 6, -1, api.OK},
		{greatestStand(), slices.Repeat(list(whole(5000000)), 10), make([][]int, 5), 6, -1, api.OK},
		{greatestStand(), list(order(4999999), whole(5000000)), list(list(1), nil, nil, nil, nil), 1, 0, api.OK},
	} {
		lies, e := roll.Lies(c.s, c.orders)
		number, splice, f := roll.Fault(c.s, c.orders)
		if !sameLists(lies, c.lies) || e != api.OK || number != c.order || splice != c.splice || f != c.e {
			t.Error(i, lies, e, number, splice, f)
		}
	}
}

// P7.5, P7.6: against all truths.
func TestFault(t *testing.T) {
	r := rand.New(rand.NewSource(3))
	found := map[[2]bool]int{}
	for range 2500 {
		s := someStand(r, 4)
		orders := someOrders(r, pick(r, 2, 4, 10), pick(r, 1, 3, 12))
		lies, e := roll.Lies(s, orders)
		if want := trueLies(s, orders); !sameLists(lies, want) || e != api.OK {
			t.Fatal(s, orders, lies, e, want)
		}
		number, splice, e := roll.Fault(s, orders)
		trueNumber, trueSplice, f := trueFault(s, orders)
		if number != trueNumber || splice != trueSplice || e != f {
			t.Fatal(s, orders, number, splice, e, trueNumber, trueSplice, f)
		}
		found[[2]bool{e == api.OK, splice >= 0}]++
	}
	if len(found) < 3 || found[[2]bool{true, false}] < 200 || found[[2]bool{true, true}] < 200 || found[[2]bool{false, true}] < 200 {
		t.Error(found)
	}
}

// surroundings returns the amounts of paper around the ends of an order, and those of a splice: if any amount of the splice lies in the order, one of these does.
func surroundings(s api.RollStand, orders []api.RollOrder, number int, used api.Span) []int {
	amounts := list(used.Low, used.High)
	end := ends(orders)[number]
	for _, place := range list(end-orders[number].Long, end) {
		near := down(new(big.Rat).Mul(rat(place), up(s)))
		amounts = append(amounts, near-1, near, near+1, near+2)
	}
	return slices.DeleteFunc(amounts, func(a int) bool { return a < used.Low || a > used.High })
}

// P7.4, P7.5, P7.6: with large numbers, of which not all truths can be tried.
func TestLarge(t *testing.T) {
	r := rand.New(rand.NewSource(4))
	for range 2000 {
		s, orders := largeStand(r), someOrders(r, 10, pick(r, 1000, 5000000))
		splices, e := roll.Splices(s)
		lies, f := roll.Lies(s, orders)
		if e != api.OK || f != api.OK {
			t.Fatal(s, orders, e, f)
		}
		used := to(0, 0)
		for i, roll := range s.Rolls {
			used = to(used.Low+roll.Low-s.Tail, used.High+roll.High-s.Tail)
			place := func(amount int) *big.Rat { return new(big.Rat).Quo(rat(amount), up(s)) }
			if splices[i] != to(down(place(used.Low)), down(place(used.High))) {
				t.Error(s, i, splices)
			}
			if i == len(s.Rolls)-1 {
				break
			}
			var in []int
			for number := range orders {
				if slices.ContainsFunc(surroundings(s, orders, number, used), func(a int) bool { return liesIn(place(a), orders, number) }) {
					in = append(in, number)
				}
			}
			if !slices.Equal(lies[i], in) {
				t.Error(s, orders, i, lies, in)
			}
		}
	}
}

// P7.12: in each truth the splices lie in Splices, and in orders of Lies; if Fault has ErrNone, nothing goes wrong in it.
func TestTruths(t *testing.T) {
	r := rand.New(rand.NewSource(5))
	safe := 0
	for n := range 3000 {
		s, orders := largeStand(r), someOrders(r, 10, pick(r, 1000, 100000, 5000000))
		if n%2 == 0 {
			s, orders = someStand(r, 6), someOrders(r, 5, 4)
		}
		one := exactly(s, someTruth(r, s))
		splices, _ := roll.Splices(s)
		lasts, _ := roll.Lasts(s)
		lies, _ := roll.Lies(s, orders)
		trueSplices, _ := roll.Splices(one)
		trueLasts, _ := roll.Lasts(one)
		trueLies, e := roll.Lies(one, orders)
		if e != api.OK || len(trueLies) != max(0, len(s.Rolls)-1) || len(trueSplices) != len(s.Rolls) {
			t.Fatal(one, orders, e, trueLies, trueSplices)
		}
		for i, x := range trueSplices {
			if x.Low != x.High || !within(list(x.Low), splices[i:i+1]) {
				t.Error(s, one, i, x, splices)
			}
		}
		if trueLasts.Low != trueLasts.High || !within(list(trueLasts.Low), list(lasts)) {
			t.Error(s, one, trueLasts, lasts)
		}
		for i, in := range trueLies {
			for _, number := range in {
				if len(in) > 1 || !slices.Contains(lies[i], number) {
					t.Error(s, one, orders, trueLies, lies)
				}
			}
		}
		if _, _, e := roll.Fault(s, orders); e == api.ErrNone {
			safe++
			if number, splice, e := roll.Fault(one, orders); e != api.ErrNone {
				t.Error(s, one, orders, number, splice, e)
			}
		}
	}
	if safe < 300 {
		t.Error(safe)
	}
}

// P7.8: the chapter's examples, and the edges.
func TestFirstExamples(t *testing.T) {
	third := func(low, high int) api.RollStand { return stand(3, 2, 0, to(low, high)) }
	almost := func(low, high int) api.RollStand {
		return stand(19999, 10000, 0, append(slices.Repeat(list(to(10000000, 10000000)), 5), to(low, high))...)
	}
	for i, c := range []struct {
		a, b  api.RollStand
		first api.RollFirst
	}{
		{chapterStand(), stand(1, 1, 0, to(6041, 6100)), api.RollOne},
		{chapterStand(), stand(1, 1, 0, to(6040, 6100)), api.RollOpen},
		{chapterStand(), stand(1, 1, 0, to(5000, 5999)), api.RollTwo},
		{chapterStand(), stand(1, 1, 0, to(5000, 6000)), api.RollOpen},
		{chapterStand(), stand(1, 1, 0, to(6010, 6020)), api.RollOpen},
		{chapterStand(), stand(1, 1, 0, to(5000, 7000)), api.RollOpen},
		{chapterStand(), stand(1, 1, 0), api.RollTwo},
		{stand(1, 1, 0), chapterStand(), api.RollOne},
		{stand(1, 1, 0), stand(2, 1, 5), api.RollOpen},
		{stand(1, 1, 0), stand(2, 1, 0, to(1, 1)), api.RollOne},
		{chapterStand(), chapterStand(), api.RollOpen},
		// Exactly, not rounded: 9061 / 1.5 is above 6040, but rounded down it is that.
		{chapterStand(), third(9061, 9061), api.RollOne},
		{chapterStand(), third(9060, 9061), api.RollOpen},
		{chapterStand(), third(8999, 8999), api.RollTwo},
		{third(1, 1), third(2, 2), api.RollOne},
		// Ends of 30000000, and of what is just below it, at it, and just above it.
		{greatestStand(), almost(9996999, 9996999), api.RollTwo},
		{greatestStand(), almost(9997000, 9997000), api.RollOpen},
		{greatestStand(), almost(9997001, 9997001), api.RollOne},
		{greatestStand(), almost(9996999, 9997001), api.RollOpen},
		{greatestStand(), almost(9996990, 9997000), api.RollOpen},
		{greatestStand(), almost(9997000, 9999999), api.RollOpen},
	} {
		back := map[api.RollFirst]api.RollFirst{api.RollOne: api.RollTwo, api.RollTwo: api.RollOne, api.RollOpen: api.RollOpen}[c.first]
		first, e := roll.First(c.a, c.b)
		other, f := roll.First(c.b, c.a)
		if first != c.first || other != back || e != api.OK || f != api.OK {
			t.Error(i, first, e, other, f)
		}
	}
}

// P7.8: against all truths of both.
func TestFirst(t *testing.T) {
	r := rand.New(rand.NewSource(6))
	firsts := map[api.RollFirst]int{}
	for range 2000 {
		a, b := someStand(r, 3), someStand(r, 3)
		one, two := true, true
		var highA, lowA *big.Rat
		for _, lengths := range allTruths(a) {
			end := trueEnd(a, lengths)
			if highA == nil || end.Cmp(highA) > 0 {
				highA = end
			}
			if lowA == nil || end.Cmp(lowA) < 0 {
				lowA = end
			}
		}
		for _, lengths := range allTruths(b) {
			end := trueEnd(b, lengths)
			one = one && highA.Cmp(end) < 0
			two = two && end.Cmp(lowA) < 0
		}
		want := api.RollOpen
		if one {
			want = api.RollOne
		} else if two {
			want = api.RollTwo
		}
		first, e := roll.First(a, b)
		if first != want || e != api.OK {
			t.Fatal(a, b, first, e, want)
		}
		firsts[first]++
	}
	if len(firsts) < 3 || firsts[api.RollOpen] < 200 {
		t.Error(firsts)
	}
}
