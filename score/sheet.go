package score

import (
	"iter"
	"slices"

	"testliner/api"
)

const (
	panels = 4 // panels of a blank
	flaps  = 2 // numbers of flaps at an end: the outer ones, the inner ones
)

// The numbers of the checks: those of the panels come first, then these.
const (
	heightCheck = panels
	gapCheck    = heightCheck + 1 // the first gap: outer and inner flaps at the top, and then at the bottom
	slotCheck   = gapCheck + 2*flaps
	checks      = slotCheck + 1
)

// sheet is a blank of which each measure can be wrong by off millimetres, with the flaps at both its ends: the top, the bottom.
type sheet struct {
	api.ScoreBlank
	off  int
	ends [2][]int
}

// want is a wish.
type want struct{ api.ScoreWish }

// lay returns the sheet of a blank.
func lay(b api.ScoreBlank, off int) sheet {
	return sheet{ScoreBlank: b, off: off, ends: [2][]int{b.Top, b.Bottom}}
}

// empty returns a blank of which all measures are 0.
func empty(tab int, open bool) api.ScoreBlank {
	return api.ScoreBlank{Tab: tab, Panels: make([]int, panels), Top: make([]int, flaps), Bottom: make([]int, flaps), Open: open}
}

// panel, height, flap and slot return what these measures can truly be.
func (x sheet) panel(i int) api.Span { return x.near(x.Panels[i], 1, api.MaxScorePanel) }
func (x sheet) height() api.Span     { return x.near(x.Height, 1, api.MaxScorePanel) }
func (x sheet) slot() api.Span       { return x.near(x.Slot, 0, api.MaxScoreSlot) }

func (x sheet) flap(end, kind int) api.Span {
	if end == 0 && x.Open {
		return api.Span{}
	}
	return x.near(x.ends[end][kind], 0, api.MaxScorePanel)
}

// near returns what a measure can truly be that is from low to high.
func (x sheet) near(measure, low, high int) api.Span {
	return api.Span{Low: max(low, measure-x.off), High: min(high, measure+x.off)}
}

// flat returns what the measure of a check is while no caliper is lost, in micrometres.
func (x sheet) flat(check int) api.Span {
	switch {
	case check < heightCheck:
		return times(1000, x.panel(check))
	case check == heightCheck:
		return times(1000, x.height())
	case check == slotCheck:
		return times(1000, x.slot())
	}
	end, kind := gap(check)
	return less(times(1000, x.panel(over(kind))), times(2000, x.flap(end, kind)))
}

// lost returns how many calipers the measure of a check loses.
func (x sheet) lost(check int) int {
	if check == heightCheck && !x.Open {
		return 2
	}
	return 1
}

// inside returns the measure of a check with calipers, in micrometres; that of the slot is what is left of it.
func (x sheet) inside(check int, calipers api.Span) api.Span {
	return less(x.flat(check), times(x.lost(check), calipers))
}

// holding returns all calipers with which a check of a sheet that is known exactly holds: if there are none, a span in which no caliper lies.
func (x sheet) holding(w want, check int) api.Span {
	all := api.Span{Low: 1, High: api.MaxScoreCaliper}
	if (x.Open || w.Open) && (check == gapCheck || check == gapCheck+1) {
		if check == gapCheck && x.Open != w.Open {
			return api.Span{}
		}
		return all
	}
	flat, lost, in := x.flat(check).Low, x.lost(check), w.in(check)
	// Nothing is rounded here: all are whole millimetres, and one or two calipers are lost.
	return meet(all, api.Span{Low: (flat - in.High) / lost, High: (flat - in.Low) / lost})
}

// fits reports whether a thing fits into the box with a caliper. If it does in some order, it does with the smallest measure along the smallest one of the box, and so on.
func (x sheet) fits(thing []int, caliper int) bool {
	at := func(check int) int { return x.inside(check, api.Span{Low: caliper, High: caliper}).Low }
	box := []int{min(at(0), at(2)), min(at(1), at(3)), at(heightCheck)}
	slices.Sort(box)
	for i, side := range slices.Sorted(slices.Values(thing)) {
		if 1000*side > box[i] {
			return false
		}
	}
	return true
}

// in returns in what the measure of a check must be, in micrometres.
func (w want) in(check int) api.Span {
	switch check {
	case 0, 2:
		return times(1000, w.Length)
	case 1, 3:
		return times(1000, w.Width)
	case heightCheck:
		return times(1000, w.Height)
	case slotCheck:
		return api.Span{Low: 0, High: 1000 * api.MaxScoreSlot}
	}
	if _, kind := gap(check); kind == 0 {
		return times(1000, w.Outer)
	}
	return times(1000, w.Inner)
}

// gap returns at which end, and between flaps of which kind, the gap of a check is.
func gap(check int) (end, kind int) {
	return (check - gapCheck) / flaps, (check - gapCheck) % flaps
}

// over returns over which panel flaps of a kind close: outer flaps hang on the panels 0 and 2 and meet over the panel 1, inner ones meet over the panel 0.
func over(kind int) int { return 1 - kind }

// times returns a span so many times as great.
func times(many int, s api.Span) api.Span {
	return api.Span{Low: many * s.Low, High: many * s.High}
}

// less returns what there can be of a span if all of others is taken from it.
func less(s api.Span, others ...api.Span) api.Span {
	for _, other := range others {
		s.Low -= other.High
		s.High -= other.Low
	}
	return s
}

// meet returns what is in all spans; its Low is above its High if there is nothing.
func meet(s api.Span, others ...api.Span) api.Span {
	for _, other := range others {
		s = api.Span{Low: max(s.Low, other.Low), High: min(s.High, other.High)}
	}
	return s
}

// outside returns the first number of a span that is not in another one.
func outside(s, other api.Span) (n int, found bool) {
	if s.Low < other.Low || s.Low > other.High {
		return s.Low, true
	}
	if s.High > other.High {
		return other.High + 1, true
	}
	return 0, false
}

// each yields the numbers of a span.
func each(s api.Span) iter.Seq[int] {
	return func(yield func(int) bool) {
		for n := s.Low; n <= s.High; n++ {
			if !yield(n) {
				return
			}
		}
	}
}

// starts yields the calipers of a span at which a blank can begin to close: the first one, and each half millimetre, because measures are whole millimetres, less one caliper or two.
func starts(calipers api.Span) iter.Seq[int] {
	const half = 500
	return func(yield func(int) bool) {
		for c := calipers.Low; c <= calipers.High; c = (c/half + 1) * half {
			if !yield(c) {
				return
			}
		}
	}
}
