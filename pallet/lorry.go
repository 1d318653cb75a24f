package pallet

import (
	"testliner/api"
	"testliner/orders"
)

// lorry is a lorry with the pallets that go onto it.
type lorry struct {
	api.PalletLorry
	items []api.PalletItem
}

// apart returns how far the axles lie apart, in half centimetres, as the middle of a pallet may lie between two whole ones.
func (l lorry) apart() int { return 2 * (l.Back - l.Front) }

// shares returns what lies on the axles, over all truths, if pallets lie in an order: each times apart, and so exactly.
func (l lorry) shares(order ...int) (front, back api.Span) {
	place := 0
	for _, number := range order {
		item := l.items[number]
		behind := 2*place + item.Long - 2*l.Front
		front = sum(front, times(item.Weight, l.apart()-behind))
		back = sum(back, times(item.Weight, behind))
		place += item.Long
	}
	return front, back
}

// sum returns the sum of spans.
func sum(spans ...api.Span) api.Span {
	var all api.Span
	for _, s := range spans {
		all.Low += s.Low
		all.High += s.High
	}
	return all
}

// times returns the span around all products of the numbers of a span with another number.
func times(s api.Span, by int) api.Span {
	return api.Span{Low: min(s.Low*by, s.High*by), High: max(s.Low*by, s.High*by)}
}

// axles returns what lies on the axles, rounded down, over all truths, if the pallets lie in the order of their numbers.
func (l lorry) axles() (front, back api.Span) {
	var order []int
	for number := range len(l.items) {
		order = append(order, number)
	}
	front, back = l.shares(order...)
	return parts(front, l.apart()), parts(back, l.apart())
}

// parts returns a span divided by a number above 0, rounded down.
func parts(s api.Span, by int) api.Span {
	return api.Span{Low: down(s.Low, by), High: down(s.High, by)}
}

// down returns a quotient rounded down.
func down(n, by int) int {
	if n%by < 0 {
		return n/by - 1
	}
	return n / by
}

// order returns the smallest order of the pallets that the axles bear in all truths.
func (l lorry) order() (order []int, found bool) {
	for order := range orders.Of(len(l.items)) {
		if l.bears(order...) {
			return order, true
		}
	}
	return nil, false
}

// bears reports whether the axles bear the pallets in an order in all truths.
func (l lorry) bears(order ...int) bool {
	front, back := l.shares(order...)
	return front.Low >= 0 && front.High <= l.FrontMost*l.apart() &&
		back.Low >= 0 && back.High <= l.BackMost*l.apart()
}
