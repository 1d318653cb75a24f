package score

import (
	"sort"

	"testliner/api"
	"testliner/span"
)

// search is a search for the smallest blank that closes with all calipers, among all that a sheet can truly be. It draws the blank measure by measure; checks of different panels share no measure.
type search struct {
	room     sheet
	want     want
	calipers api.Span
	drawn    sheet
}

// smallest returns the smallest blank that closes with all calipers, of all that the sheet can truly be. If there is none, failed is the least number such that no blank meets the checks up to it, and b means nothing; else failed is checks.
func (x sheet) smallest(w want, calipers api.Span) (b api.ScoreBlank, failed int) {
	s := search{room: x, want: w, calipers: calipers, drawn: lay(empty(x.Tab, x.Open), 0)}
	failed = checks
	for i := range panels {
		failed = min(failed, s.panel(i))
	}
	if !s.rise(heightCheck, x.height(), &s.drawn.Height) {
		failed = min(failed, heightCheck)
	}
	if !s.rise(slotCheck, x.slot(), &s.drawn.Slot) {
		failed = min(failed, slotCheck)
	}
	return s.drawn.ScoreBlank, failed
}

// panel draws the smallest panel for which there are flaps, and these flaps. If there is none, failed is the least of the panel's checks such that no panel meets those up to it; else it is checks.
func (s *search) panel(i int) (failed int) {
	room, panel := s.room.panel(i), &s.drawn.Panels[i]
	if !s.rise(i, room, panel) {
		return i
	}
	failed = i
	for long := range each(api.Span{Low: *panel, High: room.High}) {
		*panel = long
		if !s.holds(i) {
			break
		}
		// Each panel fails at one check, and the panel that goes furthest tells which one none meets.
		failed = max(failed, s.flaps(i))
		if failed == checks {
			break
		}
	}
	return failed
}

// flaps draws the shortest flaps that close over a panel, and returns the first of their checks that fails, or checks.
func (s *search) flaps(panel int) (failed int) {
	for check := gapCheck; check < slotCheck; check++ {
		end, kind := gap(check)
		if over(kind) == panel && !s.fall(check, s.room.flap(end, kind), &s.drawn.ends[end][kind]) {
			return check
		}
	}
	return checks
}

// rise draws the least panel, height or slot with which its check holds: what it leaves inside grows with it. It reports whether there is one.
func (s *search) rise(check int, room api.Span, measure *int) bool {
	return s.draw(check, room, measure, func(with api.Span) bool { return with.High >= s.calipers.High })
}

// fall draws the least flap with which the check of its gap holds: the gap shrinks while the flap grows. It reports whether there is one.
func (s *search) fall(check int, room api.Span, measure *int) bool {
	return s.draw(check, room, measure, func(with api.Span) bool { return with.Low <= s.calipers.Low })
}

// draw draws the least measure of a room that is enough, which is seen from the calipers with which the check holds then, and reports whether the check holds with all calipers. Whatever is greater than enough must be enough as well.
func (s *search) draw(check int, room api.Span, measure *int, enough func(api.Span) bool) bool {
	many := room.High - room.Low + 1
	least := sort.Search(many, func(i int) bool {
		*measure = room.Low + i
		return enough(s.drawn.holding(s.want, check))
	})
	*measure = room.Low + least
	return least < many && s.holds(check)
}

// holds reports whether a check holds with all calipers.
func (s *search) holds(check int) bool {
	with := s.drawn.holding(s.want, check)
	return span.Within(with.Low, with.High, s.calipers.Low, s.calipers.High)
}
