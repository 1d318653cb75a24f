package score_test

import (
	"math/rand"
	"testing"

	"testliner/api"
	"testliner/score"
)

// P2.6: one check after another lets a caliper through, by what its measures can be.
func TestMayExamples(t *testing.T) {
	panels := func(l ...int) api.ScoreBlank { return changed(func(b *api.ScoreBlank) { b.Panels = l }) }
	for i, c := range []struct {
		b        api.ScoreBlank
		w        api.ScoreWish
		calipers api.Span
		off      int
		caliper  int
		e        api.Errno
	}{
		{chapterBlank(), chapterWish(), to(3000, 4000), 0, 3000, api.OK},
		{chapterBlank(), chapterWish(), to(1, 10000), 0, 3000, api.OK},
		{chapterBlank(), chapterWish(), to(3141, 10000), 0, 3141, api.OK},
		{chapterBlank(), chapterWish(), to(4000, 4001), 0, 4000, api.OK},
		{chapterBlank(), chapterWish(), to(4001, 10000), 0, 0, api.ErrState},
		{chapterBlank(), chapterWish(), to(1, 2999), 0, 0, api.ErrState},
		{chapterBlank(), chapterWish(), to(1, 10000), 2, 2000, api.OK},
		{chapterBlank(), chapterWish(), to(1, 10000), 5, 500, api.OK},
		{panels(307, 204, 304, 204), chapterWish(), to(3000, 4000), 1, 0, api.ErrState},
		{panels(306, 204, 304, 204), chapterWish(), to(3000, 4000), 1, 4000, api.OK},
		{panels(304, 204, 300, 204), chapterWish(), to(1, 10000), 2, 2000, api.OK},
		{panels(304, 204, 299, 204), chapterWish(), to(1, 10000), 2, 0, api.ErrState},
		{panels(304, 204, 304, 209), chapterWish(), to(1, 4999), 4, 4000, api.OK},
		// The height lets calipers begin at half a millimetre.
		{changed(func(b *api.ScoreBlank) { b.Height = 209 }), chapterWish(), to(3001, 4000), 0, 3500, api.OK},
		{changed(func(b *api.ScoreBlank) { b.Height = 210 }), chapterWish(), to(3001, 4000), 1, 3500, api.OK},
		{changed(func(b *api.ScoreBlank) { b.Slot = 1 }), chapterWish(), to(3000, 4000), 2, 3000, api.OK},
		{changed(func(b *api.ScoreBlank) { b.Slot = 1 }), chapterWish(), to(3001, 4000), 2, 0, api.ErrState},
		{opened(), wished(func(w *api.ScoreWish) { w.Open, w.Height = true, to(206, 206) }), to(1, 10000), 0, 0, api.ErrState},
		{opened(), wished(func(w *api.ScoreWish) { w.Open, w.Height = true, to(206, 206) }), to(3000, 10000), 1, 3000, api.OK},
		{opened(), wished(func(w *api.ScoreWish) { w.Height = to(0, 3000) }), to(1, 10000), 5, 0, api.ErrState},
		{chapterBlank(), wished(func(w *api.ScoreWish) { w.Open = true }), to(1, 10000), 5, 0, api.ErrState},
	} {
		if caliper, e := score.May(c.b, c.w, c.calipers, c.off); caliper != c.caliper || e != c.e {
			t.Error(i, caliper, e)
		}
	}
}

// P2.6: the panel and both its flaps are one truth: here each gap can be met, and the panel, but not by one panel.
func TestMayOneTruth(t *testing.T) {
	w := wished(func(w *api.ScoreWish) { w.Length, w.Inner = to(300, 300), to(99, 99) })
	b := changed(func(b *api.ScoreBlank) { b.Top[1], b.Bottom[1] = 100, 100 })
	// The panel must be 300 inside, so the gap is 300 less twice the flap: 98, 100 or 102. With 301 inside it would be 99.
	if caliper, e := score.May(b, w, to(3000, 4000), 1); caliper != 0 || e != api.ErrState {
		t.Error(caliper, e)
	}
	w.Inner = to(99, 100)
	if caliper, e := score.May(b, w, to(3000, 4000), 1); caliper != 3000 || e != api.OK {
		t.Error(caliper, e)
	}
}

// can reports whether a blank closes with a caliper by some true measures. Checks of different panels share no measure, so each part is tried by itself.
func can(b api.ScoreBlank, w api.ScoreWish, c, off int) bool {
	try := func(n *int, low, high int, good func() bool) bool {
		old := *n
		defer func() { *n = old }()
		low, high = near(old, off, low, high)
		for *n = low; *n <= high; *n++ {
			if good() {
				return true
			}
		}
		return false
	}
	x := clone(b)
	part := func(panel int) bool {
		return try(&x.Panels[panel], 1, 3000, func() bool {
			if !holds(x, w, panel, c) {
				return false
			}
			if panel > 1 {
				return true
			}
			kind := 1 - panel
			top := func() bool { return holds(x, w, 5+kind, c) }
			bottom := func() bool { return holds(x, w, 7+kind, c) }
			if !try(&x.Bottom[kind], 0, 3000, bottom) {
				return false
			}
			if x.Open {
				return top()
			}
			return try(&x.Top[kind], 0, 3000, top)
		})
	}
	return part(0) && part(1) && part(2) && part(3) &&
		try(&x.Height, 1, 3000, func() bool { return holds(x, w, 4, c) }) &&
		try(&x.Slot, 0, 20, func() bool { return holds(x, w, 9, c) })
}

// P2.6, P2.12: each caliper is tried, with all that the measures can be.
func TestMayTried(t *testing.T) {
	r := rand.New(rand.NewSource(3))
	found, late := 0, 0
	for i := range 1500 {
		b, w := someBlank(r, []int{12, 300, 3000}[i%3])
		off := r.Intn(6) * r.Intn(2)
		calipers := someSpan(r, 1, 8000, []int{30, 1200, 3000}[r.Intn(3)])
		want := 0
		for c := calipers.Low; c <= calipers.High && want == 0; c++ {
			if can(b, w, c, off) {
				want = c
			}
		}
		caliper, e := score.May(b, w, calipers, off)
		if caliper != want || (e == api.OK) != (want > 0) || e != api.OK && e != api.ErrState {
			t.Error(b, w, calipers, off, caliper, e, want)
		}
		if want > 0 {
			found++
		}
		if want > calipers.Low {
			late++
		}
	}
	if found < 100 || late < 30 {
		t.Error("too few close:", found, late)
	}
}

// P2.12: if a truth closes with a caliper, May returns no greater one; with off 0 it is as Calipers says.
func TestMayTruth(t *testing.T) {
	r := rand.New(rand.NewSource(4))
	seen := 0
	for i := range 3000 {
		b, w := someBlank(r, []int{12, 300, 3000}[i%3])
		closing, e := score.Calipers(b, w)
		calipers := someSpan(r, 1, 10000, 5000)
		caliper, f := score.May(b, w, calipers, 0)
		meets := e == api.OK && closing.Low <= calipers.High && calipers.Low <= closing.High
		if meets != (f == api.OK) || meets && caliper != max(closing.Low, calipers.Low) {
			t.Error(b, w, calipers, closing, e, caliper, f)
		}
		if e != api.OK {
			continue
		}
		// The blank itself is the truth here; what was measured is off by some.
		off := r.Intn(6)
		measured := someTruth(r, b, off)
		truth := some(r, closing.Low, closing.High)
		seen++
		if caliper, f := score.May(measured, w, to(max(1, truth-r.Intn(2000)), min(10000, truth+r.Intn(500))), off); f != api.OK || caliper > truth {
			t.Error(b, measured, w, off, truth, caliper, f)
		}
	}
	if seen < 300 {
		t.Error("too few close:", seen)
	}
}
