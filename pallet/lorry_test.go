package pallet_test

import (
	"math/big"
	"math/rand"
	"slices"
	"testing"

	"testliner/api"
	"testliner/pallet"
)

// trueAxles returns what lies on the axles if pallets of true weights lie in an order.
func trueAxles(l api.PalletLorry, items []api.PalletItem, order, weights []int) (front, back *big.Rat) {
	all, back := new(big.Rat), new(big.Rat)
	place := 0
	for _, number := range order {
		weight := big.NewRat(int64(weights[number]), 1)
		middle := new(big.Rat).Add(big.NewRat(int64(place), 1), big.NewRat(int64(items[number].Long), 2))
		arm := middle.Sub(middle, big.NewRat(int64(l.Front), 1))
		all.Add(all, weight)
		back.Add(back, arm.Mul(arm, weight))
		place += items[number].Long
	}
	back.Quo(back, big.NewRat(int64(l.Back-l.Front), 1))
	return all.Sub(all, back), back
}

// down returns a number rounded down.
func down(x *big.Rat) int {
	return int(new(big.Int).Div(x.Num(), x.Denom()).Int64())
}

// eachWeights visits all weights of pallets; corners says whether just the least and the greatest of each.
func eachWeights(items []api.PalletItem, corners bool, weights []int, visit func([]int)) {
	if len(weights) == len(items) {
		visit(weights)
		return
	}
	s := items[len(weights)].Weight
	if corners {
		eachWeights(items, corners, append(slices.Clone(weights), s.Low), visit)
		eachWeights(items, corners, append(slices.Clone(weights), s.High), visit)
		return
	}
	for weight := s.Low; weight <= s.High; weight++ {
		eachWeights(items, corners, append(slices.Clone(weights), weight), visit)
	}
}

// eachOrder visits all orders of pallets, ascending.
func eachOrder(pallets int, order []int, visit func([]int)) {
	if len(order) == pallets {
		visit(order)
	}
	for next := range pallets {
		if !slices.Contains(order, next) {
			eachOrder(pallets, append(slices.Clone(order), next), visit)
		}
	}
}

// bear reports whether the axles bear pallets of true weights in an order.
func bear(l api.PalletLorry, items []api.PalletItem, order, weights []int) bool {
	front, back := trueAxles(l, items, order, weights)
	return front.Sign() >= 0 && back.Sign() >= 0 &&
		front.Cmp(big.NewRat(int64(l.FrontMost), 1)) <= 0 && back.Cmp(big.NewRat(int64(l.BackMost), 1)) <= 0
}

// someLorry returns a lorry, someItems so many pallets for it, whose weights are spans that are at most so much wide.
func someLorry(r *rand.Rand, most int) api.PalletLorry {
	l := api.PalletLorry{Long: pick(r, 600, some(r, 20, 2000), 2000), FrontMost: some(r, 0, most), BackMost: some(r, 0, most)}
	l.Front = pick(r, 0, some(r, 0, l.Long/3), some(r, 0, l.Long-1))
	l.Back = pick(r, l.Long, some(r, l.Front+1, l.Long))
	return l
}

func someItems(r *rand.Rand, l api.PalletLorry, many, most, width int) []api.PalletItem {
	var items []api.PalletItem
	for range many {
		low := some(r, 0, most-width)
		items = append(items, item(some(r, 1, l.Long/many), low, low+r.Intn(width+1)))
	}
	return items
}

// P9.9: the chapter's example, and the edges.
func TestAxlesExamples(t *testing.T) {
	l, longest := chapterLorry(), api.PalletLorry{Long: 2000, Front: 1999, Back: 2000}
	a, b := item(120, 1000000, 1000000), item(120, 800000, 900000)
	for i, c := range []struct {
		l           api.PalletLorry
		items       []api.PalletItem
		front, back api.Span
	}{
		{l, list(a, b), to(1740000, 1820000), to(60000, 80000)},
		{l, list(b, a), to(1680000, 1790000), to(110000, 120000)},
		{l, nil, to(0, 0), to(0, 0)},
		// A pallet whose middle lies at an axle, before the front one, and behind the back one.
		{l, list(item(200, 7, 9)), to(7, 9), to(0, 0)},
		{l, list(item(199, 7, 9)), to(7, 9), to(-1, -1)},
		{l, list(item(199, 0, 0)), to(0, 0), to(0, 0)},
		{l, list(item(1, 1, 1)), to(1, 1), to(-1, -1)},
		{l, list(item(1, 0, 1)), to(0, 1), to(-1, 0)},
		{l, list(item(500, 0, 0), item(100, 8, 9)), to(-2, -1), to(9, 10)},
		{l, list(item(400, 0, 0), item(200, 8, 9)), to(0, 0), to(8, 9)},
		{l, list(item(500, 0, 0), item(100, 8, 8)), to(-1, -1), to(9, 9)},
		// Half a gram less than nothing, and half a gram.
		{api.PalletLorry{Long: 3, Front: 1, Back: 2}, list(item(1, 1, 1)), to(1, 1), to(-1, -1)},
		{api.PalletLorry{Long: 3, Back: 1}, list(item(1, 1, 1)), to(0, 0), to(0, 0)},
		{api.PalletLorry{Long: 3, Back: 1}, list(item(1, 0, 0), item(2, 1, 1)), to(-1, -1), to(2, 2)},
		{api.PalletLorry{Long: 3, Back: 1}, list(item(1, 0, 0), item(1, 1, 1)), to(-1, -1), to(1, 1)},
		// Between the axles; a middle between two centimetres, one that is not rounded.
		{l, list(item(600, 5, 6)), to(2, 3), to(2, 3)},
		{l, list(item(201, 800, 800)), to(799, 799), to(1, 1)},
		{l, list(item(201, 799, 799)), to(798, 798), to(0, 0)},
		{l, list(item(201, 801, 801)), to(799, 799), to(1, 1)},
		// Just what all truths can be: heavy pallets before the front axle make the back one lighter.
		{l, list(item(100, 0, 80), item(500, 0, 80)), to(0, 120), to(-10, 50)},
		{longest, list(item(2000, 5000000, 5000000)), to(5000000000, 5000000000), to(-4995000000, -4995000000)},
		{longest, slices.Repeat(list(item(1, 5000000, 5000000)), 7), to(69877500000, 69877500000), to(-69842500000, -69842500000)},
	} {
		if front, back, e := pallet.Axles(c.l, c.items); front != c.front || back != c.back || e != api.OK {
			t.Error(i, front, back, e)
		}
	}
}

// P9.9, P9.15: against all truths of a few pallets with narrow spans, and against the ends of the spans of many; both axles together bear the weights.
func TestAxles(t *testing.T) {
	r := rand.New(rand.NewSource(9))
	below := 0
	for i := range 300 {
		l, corners := someLorry(r, 40000000), i%2 == 0
		items := someItems(r, l, some(r, 1, 3), pick(r, 9, 5000000), 4)
		if corners {
			items = someItems(r, l, some(r, 1, 7), 5000000, pick(r, 9, 5000000))
		}
		var order []int
		for number := range items {
			order = append(order, number)
		}
		var front, back api.Span
		first := true
		eachWeights(items, corners, nil, func(weights []int) {
			one, other := trueAxles(l, items, order, weights)
			all := 0
			for _, weight := range weights {
				all += weight
			}
			if new(big.Rat).Add(one, other).Cmp(big.NewRat(int64(all), 1)) != 0 {
				t.Fatal(l, items, weights)
			}
			if first {
				front, back, first = to(down(one), down(one)), to(down(other), down(other)), false
			}
			front = to(min(front.Low, down(one)), max(front.High, down(one)))
			back = to(min(back.Low, down(other)), max(back.High, down(other)))
		})
		if gotFront, gotBack, e := pallet.Axles(l, items); gotFront != front || gotBack != back || e != api.OK {
			t.Fatal(l, items, gotFront, gotBack, e, front, back)
		}
		if front.Low < 0 || back.Low < 0 {
			below++
		}
	}
	if below < 30 || below > 270 {
		t.Error(below)
	}
}

// P9.10: the edges of what axles bear, exactly.
func TestOrderExamples(t *testing.T) {
	bearing := func(front, back int) api.PalletLorry {
		return api.PalletLorry{Long: 400, Back: 400, FrontMost: front, BackMost: back}
	}
	one, two := item(100, 1000, 1000), item(100, 3000, 3000)
	for i, c := range []struct {
		l     api.PalletLorry
		items []api.PalletItem
		order []int
		e     api.Errno
	}{
		// 0, 1: 2750 and 1250 to the front and the back; 1, 0: 3250 and 750.
		{bearing(2749, 4000), list(one, two), nil, api.ErrState},
		{bearing(2750, 1250), list(one, two), list(0, 1), api.OK},
		{bearing(3250, 1250), list(one, two), list(0, 1), api.OK},
		{bearing(3250, 1249), list(one, two), list(1, 0), api.OK},
		{bearing(3250, 750), list(one, two), list(1, 0), api.OK},
		{bearing(3250, 749), list(one, two), nil, api.ErrState},
		{bearing(3249, 1249), list(one, two), nil, api.ErrState},
		{bearing(2750, 4000), list(two, one), list(1, 0), api.OK},
		// The heaviest truths count: 875 and 3/8 of one more to the front, and 1250 and 1/8.
		{bearing(2750, 4000), list(item(100, 1000, 1001), two), nil, api.ErrState},
		{bearing(2751, 4000), list(item(100, 1000, 1001), two), list(0, 1), api.OK},
		{bearing(4000, 1250), list(item(100, 1000, 1001), two), list(1, 0), api.OK},
		{bearing(4000, 1251), list(item(100, 1000, 1001), two), list(0, 1), api.OK},
		// No axle may have less than 0, not even a part of a gram, in any truth.
		{chapterLorry(), list(item(200, 0, 9)), list(0), api.OK},
		{chapterLorry(), list(item(199, 0, 9)), nil, api.ErrState},
		{chapterLorry(), list(item(199, 0, 0)), list(0), api.OK},
		{chapterLorry(), list(item(199, 0, 1)), nil, api.ErrState},
		{api.PalletLorry{Long: 100, Back: 50, FrontMost: 9, BackMost: 9}, list(item(100, 5, 5)), list(0), api.OK},
		{api.PalletLorry{Long: 100, Back: 49, FrontMost: 9, BackMost: 9}, list(item(100, 5, 5)), nil, api.ErrState},
		{api.PalletLorry{Long: 101, Back: 50, FrontMost: 9, BackMost: 9}, list(item(101, 1, 1)), nil, api.ErrState},
		{api.PalletLorry{Long: 101, Back: 50, FrontMost: 9, BackMost: 9}, list(item(101, 0, 0)), list(0), api.OK},
		// Like pallets stay in the order of their numbers; nothing lies on no pallets.
		{bearing(40000000, 40000000), slices.Repeat(list(item(50, 0, 5000000)), 7), list(0, 1, 2, 3, 4, 5, 6), api.OK},
		{bearing(0, 0), nil, nil, api.OK},
		{bearing(0, 0), list(item(50, 0, 0), item(60, 0, 0)), list(0, 1), api.OK},
	} {
		if order, e := pallet.Order(c.l, c.items); !slices.Equal(order, c.order) || e != c.e {
			t.Error(i, order, e)
		}
	}
}

// P9.10, P9.15: against all orders; what lies on an axle is the most, and the least, where each weight is at an end of its span.
func TestOrder(t *testing.T) {
	r := rand.New(rand.NewSource(10))
	firsts := map[string]int{}
	for i := range 1000 {
		many := some(r, 1, 4)
		l := someLorry(r, 12000000)
		items := someItems(r, l, many, 5000000, pick(r, 0, 9, 500000))
		corners := true
		if i%4 == 0 {
			l.FrontMost, l.BackMost, corners = some(r, 0, 20), some(r, 0, 20), false
			items = someItems(r, l, min(3, many), 9, 2)
		}
		var want []int
		eachOrder(len(items), nil, func(order []int) {
			fine := want == nil
			if fine {
				eachWeights(items, corners, nil, func(weights []int) { fine = fine && bear(l, items, order, weights) })
			}
			if fine {
				want = order
			}
		})
		e, kind := api.OK, "first"
		if want == nil {
			e, kind = api.ErrState, "none"
		} else if !slices.IsSorted(want) {
			kind = "later"
		}
		firsts[kind]++
		if order, f := pallet.Order(l, items); !slices.Equal(order, want) || e != f {
			t.Fatal(l, items, order, f, want)
		}
	}
	if min(firsts["first"], firsts["later"], firsts["none"]) < 25 {
		t.Error(firsts)
	}
}

// P9.10, P9.15: seven pallets, in random truths; no smaller list is borne in all of them.
func TestOrderOfSeven(t *testing.T) {
	r := rand.New(rand.NewSource(11))
	later := 0
	for range 40 {
		l := api.PalletLorry{Long: 1400, Front: some(r, 0, 200), Back: some(r, 800, 1400)}
		items := someItems(r, l, 7, 2000000, 200000)
		all := 0
		for _, x := range items {
			all += x.Weight.High
		}
		l.FrontMost, l.BackMost = min(40000000, all*some(r, 40, 70)/100), min(40000000, all*some(r, 35, 60)/100)
		order, e := pallet.Order(l, items)
		sure := func(order []int) bool {
			fine := true
			eachWeights(items, true, nil, func(weights []int) { fine = fine && bear(l, items, order, weights) })
			return fine
		}
		if e == api.ErrState {
			for range 20 {
				if sure(r.Perm(7)) {
					t.Fatal(l, items)
				}
			}
			continue
		}
		if e != api.OK || !sure(order) {
			t.Fatal(l, items, order, e)
		}
		if !slices.IsSorted(order) {
			later++
		}
		for range 20 {
			if other := r.Perm(7); slices.Compare(other, order) < 0 && sure(other) {
				t.Fatal(l, items, order, other)
			}
		}
	}
	if later < 5 {
		t.Error(later)
	}
}
