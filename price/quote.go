package price

import (
	"slices"
	"sort"

	"testliner/api"
	"testliner/reckon"
)

// thousand is for how many boxes, and for how many square metres of board, a cost is told; metre is a square metre in square centimetres.
const (
	thousand = 1000
	metre    = 10000
)

// quote is what boxes are quoted by.
type quote struct{ api.PriceQuote }

// parts returns what so many boxes cost the works.
func (q quote) parts(n int) api.PriceParts {
	return api.PriceParts{
		Board:   reckon.Up(n*q.Area*(whole+q.Waste)*q.Board, whole*thousand*metre),
		Tool:    q.Tool,
		Setup:   q.Setup * reckon.Up(n, q.Run),
		Work:    reckon.Up(q.Work*n, thousand),
		Freight: q.Freight * reckon.Up(n, q.Pallet),
	}
}

// off returns how many thousandths are taken off the price of so many boxes.
func (q quote) off(n int) int {
	above := sort.Search(len(q.Steps), func(i int) bool { return q.Steps[i].From > n })
	if above == 0 {
		return 0
	}
	return q.Steps[above-1].Off
}

// price returns the price of so many boxes.
func (q quote) price(n int) int {
	parts := q.parts(n)
	cost := reckon.Sum(parts.Board, parts.Tool, parts.Setup, parts.Work, parts.Freight)
	return reckon.Up(cost*(whole+q.Margin)*(whole-q.off(n)), whole*whole)
}

// each returns the price of one of so many boxes.
func (q quote) each(n int) api.Ratio { return reckon.Lowest(q.price(n), n) }

// cheapest returns the smallest number of boxes of which each costs least.
func (q quote) cheapest(counts api.Span) int {
	best := counts.Low
	price := q.price(best)
	for n := counts.Low + 1; n <= counts.High; n++ {
		// Both are multiplied by both numbers, so that they stay exact.
		if other := q.price(n); other*best < price*n {
			best, price = n, other
		}
	}
	return best
}

// stretches yields all numbers of boxes between two steps, before the first one, and from the last one on: the greatest numbers first.
func (q quote) stretches(yield func(api.Span) bool) {
	high := api.MaxPriceCount
	for _, step := range slices.Backward(q.Steps) {
		if !yield(api.Span{Low: step.From, High: high}) {
			return
		}
		high = step.From - 1
	}
	if high > 0 {
		yield(api.Span{Low: 1, High: high})
	}
}

// most returns the greatest number of boxes whose price is not above so much money.
func (q quote) most(money int) (n int, found bool) {
	for counts := range q.stretches {
		// In a stretch more boxes cost no less.
		many := sort.Search(counts.High-counts.Low+1, func(i int) bool { return q.price(counts.Low+i) > money })
		if many > 0 {
			return counts.Low + many - 1, true
		}
	}
	return 0, false
}
