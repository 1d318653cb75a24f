package damp

import (
	"iter"
	"slices"
	"sort"

	"testliner/api"
	"testliner/span"
)

// board is the rule by which a board's moisture changes, and what is known of that moisture.
type board struct {
	api.DampRule
	api.Span
}

// comes returns the moisture to which a board comes from another one in an hour, by that of the room.
func (b board) comes(moist, room int) int {
	return min(max(room, moist-b.Down), moist+b.Up)
}

// next returns the board after an hour in a room. The moister the board or the room is, the moister it is then, so the ends come from the ends of both.
func (b board) next(room api.Span) board {
	b.Low, b.High = b.comes(b.Low, room.Low), b.comes(b.High, room.High)
	return b
}

// lies returns the board at each hour of a stay in a room, from its beginning to its end.
func (b board) lies(room api.Span, hours int) []board {
	all := []board{b}
	for range hours {
		b = b.next(room)
		all = append(all, b)
	}
	return all
}

// stays yields for each stay, one after another, the board at each hour from its beginning to its end.
func (b board) stays(stays ...api.DampStay) iter.Seq[[]board] {
	return func(yield func([]board) bool) {
		at := b
		for _, s := range stays {
			hours := at.lies(s.Room, s.Hours)
			at = hours[s.Hours]
			if !yield(hours) {
				return
			}
		}
	}
}

// after returns the moisture at the end of each stay.
func (b board) after(stays ...api.DampStay) []api.Span {
	var after []api.Span
	for hours := range b.stays(stays...) {
		after = append(after, hours[len(hours)-1].Span)
	}
	return after
}

// peak returns the greatest moisture that is possible through stays, and the first hour at which it is.
func (b board) peak(stays ...api.DampStay) (moist, hour int) {
	moist = b.High
	begin := 0
	for hours := range b.stays(stays...) {
		for i, at := range hours {
			if at.High > moist {
				moist, hour = at.High, begin+i
			}
		}
		begin += len(hours) - 1
	}
	return moist, hour
}

// leaves returns the first hour of a stay in a room at which the board is not within a limit in some truth.
func (b board) leaves(room api.Span, hours int, limit api.Span) (hour int, leaves bool) {
	hour = slices.IndexFunc(b.lies(room, hours), func(at board) bool {
		return !span.Within(limit.Low, limit.High, at.Low, at.High)
	})
	return hour, hour >= 0
}

// keeps returns how many thousandths of its strength a board of a moisture keeps.
func keeps(table []api.DampStep, moist int) int {
	above := sort.Search(len(table), func(i int) bool { return table[i].Moist > moist })
	return table[above-1].Keep
}
