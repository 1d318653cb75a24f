package damp_test

import (
	"math/rand"
	"slices"

	"testliner/api"
)

// to returns a span, rule a rule, stay a stay, step a step, item a pallet, room a room, cause a cause, and list a list.
func to(low, high int) api.Span { return api.Span{Low: low, High: high} }

func rule(up, down int) api.DampRule { return api.DampRule{Up: up, Down: down} }

func stay(low, high, hours int) api.DampStay {
	return api.DampStay{Room: to(low, high), Hours: hours}
}

func step(moist, keep int) api.DampStep { return api.DampStep{Moist: moist, Keep: keep} }

func item(start, limit api.Span, hours int) api.DampItem {
	return api.DampItem{Start: start, Limit: limit, Hours: hours}
}

func room(low, high, places int) api.DampRoom {
	return api.DampRoom{Moist: to(low, high), Places: places}
}

func cause(must, may int) api.DampCause { return api.DampCause{Must: must, May: may} }

func list[E any](elements ...E) []E { return elements }

// The rule, the stays, the table, the pallets (for so many hours each), the rooms and the causes of the chapter's examples.
func chapterRule() api.DampRule { return rule(10, 4) }

func chapterStays() []api.DampStay { return list(stay(90, 100, 2), stay(50, 60, 5)) }

func chapterTable() []api.DampStep { return list(step(0, 1000), step(80, 700), step(120, 400)) }

func chapterItems(hours ...int) []api.DampItem {
	var items []api.DampItem
	for _, h := range hours {
		items = append(items, item(to(60, 70), to(50, 85), h))
	}
	return items
}

func chapterRooms() []api.DampRoom { return list(room(90, 100, 2), room(50, 60, 1)) }

func chapterCauses(storeMay int) []api.DampCause {
	return list(cause(1, 2), cause(4, 0), cause(0, storeMay), cause(8, 1))
}

// some returns a number from low to high, pick one of some.
func some(r *rand.Rand, low, high int) int { return low + r.Intn(high-low+1) }

func pick[E any](r *rand.Rand, list ...E) E { return list[r.Intn(len(list))] }

// someRule returns a rule, someMoist what is known of a moisture from low to high, someStays stays in rooms up to a moisture.
func someRule(r *rand.Rand) api.DampRule {
	rate := func() int { return pick(r, 0, 1, 2, 3, 50, some(r, 0, 10), some(r, 0, 50)) }
	return rule(rate(), rate())
}

func someMoist(r *rand.Rand, low, high int) api.Span {
	from := pick(r, low, some(r, low, high), some(r, low, high))
	return to(from, pick(r, from, some(r, from, high), some(r, from, min(high, from+5)), high))
}

func someStays(r *rand.Rand, most, moist, hours int) []api.DampStay {
	var stays []api.DampStay
	for range some(r, 0, most) {
		stays = append(stays, api.DampStay{Room: someMoist(r, 0, moist), Hours: pick(r, 0, 1, 2, some(r, 0, hours))})
	}
	return stays
}

// reach is which moistures are possible.
type reach [api.MaxDampMoist + 1]bool

// from returns that all moistures of a span are possible.
func from(s api.Span) reach {
	var x reach
	for m := s.Low; m <= s.High; m++ {
		x[m] = true
	}
	return x
}

// comes returns the moisture of a board after an hour, by the chapter's words.
func comes(r api.DampRule, moist, room int) int {
	if room > moist {
		if room-moist > r.Up {
			return moist + r.Up
		}
		return room
	}
	if moist-room > r.Down {
		return moist - r.Down
	}
	return room
}

// hour returns which moistures are possible after an hour in a room, truth by truth.
func (x reach) hour(r api.DampRule, room api.Span) reach {
	var next reach
	for m, can := range x {
		for n := room.Low; can && n <= room.High; n++ {
			next[comes(r, m, n)] = true
		}
	}
	return next
}

// span returns the moistures that are possible, from the least to the greatest.
func (x reach) span() api.Span {
	low := slices.Index(x[:], true)
	high := len(x) - 1
	for !x[high] {
		high--
	}
	return to(low, high)
}

// outside reports whether a moisture beyond a limit is possible.
func (x reach) outside(limit api.Span) bool {
	for m, can := range x {
		if can && (m < limit.Low || m > limit.High) {
			return true
		}
	}
	return false
}

// trueStays returns what is possible at the end of each stay, the greatest moisture that is possible at any hour, and the first hour at which it is.
func trueStays(r api.DampRule, start api.Span, stays []api.DampStay) (after []api.Span, peak, first int) {
	x := from(start)
	peak = start.High
	hour := 0
	for _, s := range stays {
		for range s.Hours {
			hour++
			x = x.hour(r, s.Room)
			if most := x.span().High; most > peak {
				peak, first = most, hour
			}
		}
		after = append(after, x.span())
	}
	return after, peak, first
}

// trueHours returns the first hour up to some last one at which a moisture beyond a limit is possible, or one more than the last.
func trueHours(r api.DampRule, start, room, limit api.Span, last int) int {
	x := from(start)
	for hour := range last + 1 {
		if x.outside(limit) {
			return hour
		}
		next := x.hour(r, room)
		// If nothing changes in an hour, nothing changes later.
		if next == x {
			break
		}
		x = next
	}
	return last + 1
}

// eachList visits all lists of so many of the numbers below one, ascending, until visit returns false.
func eachList(many, below int, visit func([]int) bool) {
	numbers := make([]int, many)
	for visit(slices.Clone(numbers)) {
		place := many - 1
		for place >= 0 && numbers[place] == below-1 {
			numbers[place] = 0
			place--
		}
		if place < 0 {
			return
		}
		numbers[place]++
	}
}

// eachChoice visits all ascending lists of so many numbers below another one, ascending.
func eachChoice(many, below int, begin []int, visit func([]int)) {
	if len(begin) == many {
		visit(begin)
		return
	}
	from := 0
	if len(begin) > 0 {
		from = begin[len(begin)-1] + 1
	}
	for next := from; next < below; next++ {
		eachChoice(many, below, append(slices.Clone(begin), next), visit)
	}
}

// chosen returns some elements of a list.
func chosen[E any](all []E, numbers []int) []E {
	var some []E
	for _, number := range numbers {
		some = append(some, all[number])
	}
	return some
}

// same reports whether lists of lists are the same.
func same(a, b [][]int) bool { return slices.EqualFunc(a, b, slices.Equal[[]int]) }

// within reports whether a span lies within another one.
func within(s, other api.Span) bool { return s.Low >= other.Low && s.High <= other.High }

// narrower returns a span within another one, or the same one.
func narrower(r *rand.Rand, s api.Span) api.Span {
	if r.Intn(3) == 0 {
		return s
	}
	low := some(r, s.Low, s.High)
	return to(low, some(r, low, s.High))
}
