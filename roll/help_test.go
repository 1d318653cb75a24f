package roll_test

import (
	"math/big"
	"math/rand"
	"slices"

	"testliner/api"
)

// to returns a span, stand a stand, order and whole an order, at a place that was seen, and list a list.
func to(low, high int) api.Span { return api.Span{Low: low, High: high} }

func stand(num, den, tail int, rolls ...api.Span) api.RollStand {
	return api.RollStand{Up: api.Ratio{Num: num, Den: den}, Tail: tail, Rolls: rolls}
}

func order(long int) api.RollOrder { return api.RollOrder{Long: long} }

func whole(long int) api.RollOrder { return api.RollOrder{Long: long, Whole: true} }

func at(splice, low, high int) api.RollSeen {
	return api.RollSeen{Splice: splice, Place: to(low, high)}
}

func list[E any](elements ...E) []E { return elements }

// chapterStand is the stand of the chapter's examples, greatestStand one with the greatest numbers.
func chapterStand() api.RollStand { return stand(3, 2, 100, to(3100, 3160), to(6100, 6100)) }

func greatestStand() api.RollStand {
	return stand(20000, 10000, 0, slices.Repeat(list(to(10000000, 10000000)), 6)...)
}

// some returns a number from low to high, pick one of some.
func some(r *rand.Rand, low, high int) int { return low + r.Intn(high-low+1) }

func pick[E any](r *rand.Rand, list ...E) E { return list[r.Intn(len(list))] }

// someSpan returns a span from low on, at most to high, and at most so wide.
func someSpan(r *rand.Rand, low, high, wide int) api.Span {
	a := some(r, low, high)
	return to(a, min(high, a+r.Intn(wide+1)))
}

// someUp returns a take-up, often a simple one.
func someUp(r *rand.Rand) api.Ratio {
	den := pick(r, 1, 1, 2, 3, 5, 7, 10000)
	return api.Ratio{Num: pick(r, den, den, 2*den, some(r, den, 2*den), some(r, den, 2*den)), Den: den}
}

// someStand returns a stand with few and short rolls, so that all truths can be tried.
func someStand(r *rand.Rand, most int) api.RollStand {
	s := api.RollStand{Up: someUp(r), Tail: pick(r, 0, 0, 1, 7, 10000)}
	long, wide := pick(r, 1, 4, 12), pick(r, 0, 1, 4)
	for range r.Intn(most + 1) {
		s.Rolls = append(s.Rolls, someSpan(r, s.Tail+1, s.Tail+long, wide))
	}
	return s
}

// largeStand returns a stand with rolls up to the longest ones.
func largeStand(r *rand.Rand) api.RollStand {
	den := some(r, 1, 10000)
	s := api.RollStand{Up: api.Ratio{Num: some(r, den, 2*den), Den: den}, Tail: r.Intn(10001)}
	for range r.Intn(7) {
		s.Rolls = append(s.Rolls, someSpan(r, s.Tail+1, 10000000, pick(r, 0, 3, 1000, 10000000)))
	}
	return s
}

// someOrders returns orders that are at most so long.
func someOrders(r *rand.Rand, most, long int) []api.RollOrder {
	var orders []api.RollOrder
	for range r.Intn(most + 1) {
		orders = append(orders, api.RollOrder{Long: some(r, 1, long), Whole: r.Intn(3) == 0})
	}
	return orders
}

// allTruths returns all truths of a stand.
func allTruths(s api.RollStand) [][]int {
	truths := list[[]int](nil)
	for _, roll := range s.Rolls {
		var longer [][]int
		for _, lengths := range truths {
			for long := roll.Low; long <= roll.High; long++ {
				longer = append(longer, append(slices.Clone(lengths), long))
			}
		}
		truths = longer
	}
	return truths
}

// someTruth returns a truth of a stand, exactly the stand with it.
func someTruth(r *rand.Rand, s api.RollStand) []int {
	var lengths []int
	for _, roll := range s.Rolls {
		lengths = append(lengths, pick(r, roll.Low, roll.High, some(r, roll.Low, roll.High)))
	}
	return lengths
}

func exactly(s api.RollStand, lengths []int) api.RollStand {
	s.Rolls = nil
	for _, long := range lengths {
		s.Rolls = append(s.Rolls, to(long, long))
	}
	return s
}

// rat returns an integer as a ratio, up a take-up, down a ratio rounded down, and over one rounded up.
func rat(n int) *big.Rat { return big.NewRat(int64(n), 1) }

func up(s api.RollStand) *big.Rat { return big.NewRat(int64(s.Up.Num), int64(s.Up.Den)) }

func down(x *big.Rat) int {
	// Euclid's division by a number above 0 rounds down.
	return int(new(big.Int).Div(x.Num(), x.Denom()).Int64())
}

func over(x *big.Rat) int { return -down(new(big.Rat).Neg(x)) }

// truePlaces returns where each splice lies in a truth, trueEnd where the paper ends.
func truePlaces(s api.RollStand, lengths []int) []*big.Rat {
	var places []*big.Rat
	used := 0
	for _, long := range lengths {
		used += long - s.Tail
		places = append(places, new(big.Rat).Quo(rat(used), up(s)))
	}
	return places
}

func trueEnd(s api.RollStand, lengths []int) *big.Rat {
	if len(lengths) == 0 {
		return new(big.Rat)
	}
	return truePlaces(s, lengths)[len(lengths)-1]
}

// ends returns where orders end.
func ends(orders []api.RollOrder) []int {
	var all []int
	place := 0
	for _, o := range orders {
		place += o.Long
		all = append(all, place)
	}
	return all
}

// total returns the place where all orders end.
func total(orders []api.RollOrder) int {
	all := 0
	for _, o := range orders {
		all += o.Long
	}
	return all
}

// liesIn reports whether a place lies in an order.
func liesIn(place *big.Rat, orders []api.RollOrder, number int) bool {
	end := ends(orders)[number]
	return place.Cmp(rat(end-orders[number].Long)) > 0 && place.Cmp(rat(end)) < 0
}

// trueLies returns the orders in which each splice but the end lies in some truth.
func trueLies(s api.RollStand, orders []api.RollOrder) [][]int {
	lies := make([][]int, max(0, len(s.Rolls)-1))
	for _, lengths := range allTruths(s) {
		places := truePlaces(s, lengths)
		for splice := range lies {
			for number := range orders {
				if liesIn(places[splice], orders, number) && !slices.Contains(lies[splice], number) {
					lies[splice] = append(lies[splice], number)
				}
			}
		}
	}
	for _, in := range lies {
		slices.Sort(in)
	}
	return lies
}

// trueFault returns the first order that goes wrong in some truth, and its splice, or that there is none.
func trueFault(s api.RollStand, orders []api.RollOrder) (number, splice int, e api.Errno) {
	lies := trueLies(s, orders)
	for number, o := range orders {
		splice = -1
		for i := len(lies) - 1; i >= 0; i-- {
			if o.Whole && slices.Contains(lies[i], number) {
				splice = i
			}
		}
		short := slices.ContainsFunc(allTruths(s), func(lengths []int) bool { return trueEnd(s, lengths).Cmp(rat(ends(orders)[number])) < 0 })
		if splice >= 0 || short {
			return number, splice, api.OK
		}
	}
	return 0, 0, api.ErrNone
}

// trueLeft returns what is left of each roll in a truth, taking from one roll after another; enough is false if the paper does not last.
func trueLeft(s api.RollStand, orders []api.RollOrder, lengths []int) (left []int, enough bool) {
	if trueEnd(s, lengths).Cmp(rat(total(orders))) < 0 {
		return nil, false
	}
	need := over(new(big.Rat).Mul(rat(total(orders)), up(s)))
	for _, long := range lengths {
		part := min(need, long-s.Tail)
		need -= part
		left = append(left, long-part)
	}
	return left, true
}

// widen returns the smallest spans around some spans and numbers of the same places; nil stands for no spans.
func widen(spans []api.Span, numbers []int) []api.Span {
	if spans == nil {
		spans = []api.Span{}
		for _, n := range numbers {
			spans = append(spans, to(n, n))
		}
	}
	for i, n := range numbers {
		spans[i] = to(min(spans[i].Low, n), max(spans[i].High, n))
	}
	return spans
}

// trueRests returns what is left of each roll over all truths in which the paper lasts, nil if there are none.
func trueRests(s api.RollStand, orders []api.RollOrder) []api.Span {
	var rests []api.Span
	for _, lengths := range allTruths(s) {
		if left, enough := trueLeft(s, orders, lengths); enough {
			rests = widen(rests, left)
		}
	}
	return rests
}

// fits reports whether a truth has all splices where they were seen.
func fits(s api.RollStand, lengths []int, seen []api.RollSeen) bool {
	places := truePlaces(s, lengths)
	return !slices.ContainsFunc(seen, func(x api.RollSeen) bool {
		place := down(places[x.Splice])
		return place < x.Place.Low || place > x.Place.High
	})
}

// trueLabels returns how long each roll is over all truths that fit, nil if there are none.
func trueLabels(s api.RollStand, seen []api.RollSeen) []api.Span {
	var labels []api.Span
	for _, lengths := range allTruths(s) {
		if fits(s, lengths, seen) {
			labels = widen(labels, lengths)
		}
	}
	return labels
}

// with returns a stand with just some rolls.
func with(s api.RollStand, numbers []int) api.RollStand {
	rolls := s.Rolls
	s.Rolls = nil
	for _, i := range numbers {
		s.Rolls = append(s.Rolls, rolls[i])
	}
	return s
}

// orderings returns all lists of different numbers below one, the shorter ones first, those of the same length in ascending order.
func orderings(below int) [][]int {
	all := list([]int{})
	for from := 0; from < len(all); from++ {
		for number := range below {
			if !slices.Contains(all[from], number) {
				all = append(all, append(slices.Clone(all[from]), number))
			}
		}
	}
	return all
}

// within reports whether all numbers are in the spans of their places.
func within(numbers []int, spans []api.Span) bool {
	for i, n := range numbers {
		if n < spans[i].Low || n > spans[i].High {
			return false
		}
	}
	return len(numbers) == len(spans)
}

// sameLists reports whether lists of lists are equal, where a nil list and an empty one are.
func sameLists(a, b [][]int) bool {
	return slices.EqualFunc(a, b, func(x, y []int) bool { return slices.Equal(x, y) })
}
