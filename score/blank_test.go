package score_test

import (
	"math/rand"
	"reflect"
	"testing"

	"testliner/api"
	"testliner/score"
)

// P2.5: the chapter's example 4, and what the smallest blank, or the first check that none meets, is.
func TestBlankExamples(t *testing.T) {
	wide := func(open bool) api.ScoreWish {
		return api.ScoreWish{Length: to(0, 3000), Width: to(0, 3000), Height: to(0, 3000), Outer: to(-3000, 3000), Inner: to(-3000, 3000), Open: open}
	}
	with := func(open bool, change func(w *api.ScoreWish)) api.ScoreWish {
		w := wide(open)
		change(&w)
		return w
	}
	none := api.ScoreBlank{}
	two := func(a, b int) []int { return []int{a, b} }
	made := func(tab, long, wide, high int, top, bottom []int, slot int, open bool) api.ScoreBlank {
		return api.ScoreBlank{Tab: tab, Panels: []int{long, wide, long, wide}, Height: high, Top: top, Bottom: bottom, Slot: slot, Open: open}
	}
	for i, c := range []struct {
		w        api.ScoreWish
		calipers api.Span
		tab      int
		b        api.ScoreBlank
		check    int
		e        api.Errno
	}{
		{chapterWish(), to(3000, 4000), 35, made(35, 304, 204, 208, two(101, 51), two(101, 51), 4, false), 0, api.OK},
		{wished(func(w *api.ScoreWish) { w.Open = true }), to(3000, 4000), 0, made(0, 304, 204, 204, two(0, 0), two(101, 51), 4, true), 0, api.OK},
		{wide(false), to(1, 1), 0, made(0, 1, 1, 1, two(0, 0), two(0, 0), 1, false), 0, api.OK},
		{wide(true), to(1, 10000), 100, made(100, 10, 10, 10, two(0, 0), two(0, 0), 10, true), 0, api.OK},
		{wide(false), to(1, 10000), 100, made(100, 10, 10, 20, two(0, 0), two(0, 0), 10, false), 0, api.OK},
		{wide(false), to(5000, 5001), 9, made(9, 6, 6, 11, two(0, 0), two(0, 0), 6, false), 0, api.OK},
		// A panel can be too short for flaps that leave just this gap, since flaps shorten it by two millimetres.
		{with(false, func(w *api.ScoreWish) { w.Length, w.Inner = to(300, 310), to(101, 101) }), to(2000, 2000), 0, api.ScoreBlank{Panels: []int{303, 2, 302, 2}, Height: 4, Top: two(0, 100), Bottom: two(0, 100), Slot: 2}, 0, api.OK},
		{with(true, func(w *api.ScoreWish) { w.Width, w.Outer = to(300, 310), to(101, 101) }), to(2000, 2000), 0, api.ScoreBlank{Panels: []int{2, 303, 2, 302}, Height: 2, Top: two(0, 0), Bottom: two(100, 0), Slot: 2, Open: true}, 0, api.OK},
		{with(false, func(w *api.ScoreWish) { w.Inner = to(1000, 2000) }), to(1000, 1000), 0, api.ScoreBlank{Panels: []int{1001, 1, 1, 1}, Height: 2, Top: two(0, 0), Bottom: two(0, 0), Slot: 1}, 0, api.OK},
		{with(false, func(w *api.ScoreWish) { w.Outer = to(-3000, -2999) }), to(1, 1000), 0, api.ScoreBlank{Panels: []int{1, 1, 1, 1}, Height: 2, Top: two(1500, 0), Bottom: two(1500, 0), Slot: 1}, 0, api.OK},
		{with(false, func(w *api.ScoreWish) { w.Length = to(2990, 2990) }), to(10000, 10000), 0, made(0, 3000, 10, 20, two(0, 0), two(0, 0), 10, false), 0, api.OK},
		{with(false, func(w *api.ScoreWish) { w.Length = to(2999, 3000) }), to(1000, 1001), 0, none, 0, api.ErrState},
		{with(false, func(w *api.ScoreWish) { w.Length, w.Width = to(5, 5), to(5, 5) }), to(1, 2), 0, none, 0, api.ErrState},
		{with(false, func(w *api.ScoreWish) { w.Width = to(2999, 3000) }), to(1000, 1001), 0, none, 1, api.ErrState},
		{with(false, func(w *api.ScoreWish) { w.Height, w.Outer = to(2999, 3000), to(7, 7) }), to(500, 501), 0, none, 4, api.ErrState},
		{with(true, func(w *api.ScoreWish) { w.Height, w.Outer = to(2999, 3000), to(7, 7) }), to(1000, 1001), 0, none, 4, api.ErrState},
		{with(false, func(w *api.ScoreWish) { w.Outer, w.Inner = to(7, 7), to(7, 7) }), to(1000, 1001), 0, none, 5, api.ErrState},
		{with(false, func(w *api.ScoreWish) { w.Inner = to(7, 7) }), to(1000, 1001), 0, none, 6, api.ErrState},
		{with(true, func(w *api.ScoreWish) { w.Outer, w.Inner = to(7, 7), to(7, 7) }), to(1000, 1001), 0, none, 7, api.ErrState},
		{with(true, func(w *api.ScoreWish) { w.Inner = to(7, 7) }), to(1000, 1001), 0, none, 8, api.ErrState},
		{with(false, func(w *api.ScoreWish) { w.Length, w.Inner = to(300, 300), to(101, 101) }), to(2000, 2000), 0, none, 6, api.ErrState},
		{with(true, func(w *api.ScoreWish) { w.Width, w.Outer = to(300, 300), to(301, 400) }), to(2000, 2000), 0, none, 7, api.ErrState},
		{with(false, func(w *api.ScoreWish) { w.Inner = to(3000, 3000) }), to(1, 1), 0, none, 6, api.ErrState},
	} {
		b, check, e := score.Blank(c.w, c.calipers, c.tab)
		if !reflect.DeepEqual(b, c.b) || check != c.check || e != c.e {
			t.Error(i, b, check, e)
		}
	}
}

// holdsAll reports whether a check holds with all calipers; a measure only shrinks with them, so both ends tell.
func holdsAll(b api.ScoreBlank, w api.ScoreWish, check int, calipers api.Span) bool {
	return holds(b, w, check, calipers.Low) && holds(b, w, check, calipers.High)
}

// least returns the smallest blank that meets the checks 0 to upto, with all measures at most most, by trying; checks of different panels share no measure.
func least(w api.ScoreWish, calipers api.Span, upto, most int) (api.ScoreBlank, bool) {
	x := api.ScoreBlank{Panels: make([]int, 4), Top: make([]int, 2), Bottom: make([]int, 2), Open: w.Open}
	good := func(check int) bool { return check > upto || holdsAll(x, w, check, calipers) }
	try := func(n *int, low int, good func() bool) bool {
		for *n = low; *n <= most; *n++ {
			if good() {
				return true
			}
		}
		return false
	}
	part := func(panel int) bool {
		return try(&x.Panels[panel], 1, func() bool {
			if !good(panel) || panel > 1 {
				return good(panel)
			}
			kind := 1 - panel
			top := func() bool { return good(5 + kind) }
			bottom := func() bool { return good(7 + kind) }
			return (w.Open && top() || !w.Open && try(&x.Top[kind], 0, top)) && try(&x.Bottom[kind], 0, bottom)
		})
	}
	ok := part(0) && part(1) && part(2) && part(3) && try(&x.Height, 1, func() bool { return good(4) }) && try(&x.Slot, 0, func() bool { return good(9) })
	return x, ok
}

// smallWish returns a wish that blanks with measures up to 40 meet, if any do, and calipers.
func smallWish(r *rand.Rand) (api.ScoreWish, api.Span) {
	w := api.ScoreWish{
		Length: someSpan(r, 0, 12, 6), Width: someSpan(r, 0, 12, 6), Height: someSpan(r, 0, 12, 6),
		Outer: someSpan(r, -14, 14, 6), Inner: someSpan(r, -14, 14, 6), Open: r.Intn(3) == 0,
	}
	calipers := to(some(r, 1, 8)*500, 0)
	calipers.High = calipers.Low + r.Intn(5)*250
	if r.Intn(2) == 0 {
		calipers = someSpan(r, 1, 10000, 1500)
	}
	return w, calipers
}

// P2.5: all small blanks are tried, for each beginning of the checks.
func TestBlankTried(t *testing.T) {
	r := rand.New(rand.NewSource(5))
	seen := map[int]int{}
	for range 3000 {
		w, calipers := smallWish(r)
		failed := 10
		for upto := range 10 {
			if _, ok := least(w, calipers, upto, 40); !ok {
				failed = upto
				break
			}
		}
		seen[failed]++
		want, ok := least(w, calipers, 9, 40)
		want.Tab = r.Intn(101)
		b, check, e := score.Blank(w, calipers, want.Tab)
		if !ok {
			if check != failed || e != api.ErrState || !reflect.ValueOf(b).IsZero() {
				t.Error(w, calipers, b, check, e, failed)
			}
		} else if !reflect.DeepEqual(b, want) || check != 0 || e != api.OK {
			t.Error(w, calipers, b, check, e, want)
		}
	}
	for _, check := range []int{0, 1, 4, 5, 6, 7, 8, 10} {
		if seen[check] < 10 {
			t.Error("too few:", check, seen[check])
		}
	}
}

// P2.11: the blank closes with all calipers, and with no number less by one.
func TestBlankSmallest(t *testing.T) {
	r := rand.New(rand.NewSource(6))
	seen := 0
	for i := range 2000 {
		w, calipers := smallWish(r)
		if i%2 == 0 {
			_, w = someBlank(r, []int{300, 3000}[r.Intn(2)])
			calipers = someSpan(r, 1, 10000, 1500)
		}
		b, _, e := score.Blank(w, calipers, i%101)
		if e != api.OK {
			continue
		}
		seen++
		bad, f := score.Close(b, w, calipers)
		if score.Check(b) != api.OK || len(bad) != 0 || f != api.OK || b.Tab != i%101 || b.Open != w.Open {
			t.Error(w, calipers, b, bad, f)
		}
		for k := range numbers(&b) {
			x := clone(b)
			*numbers(&x)[k]--
			bad, f := score.Close(x, w, calipers)
			if f == api.OK && len(bad) == 0 {
				t.Error(w, calipers, b, k)
			}
		}
	}
	if seen < 300 {
		t.Error("too few blanks:", seen)
	}
}

// P2.11: with a narrower span of calipers, or a wider span of a wish, there is still a blank, which is not greater.
func TestBlankEasier(t *testing.T) {
	r := rand.New(rand.NewSource(7))
	seen := 0
	for range 4000 {
		w, calipers := smallWish(r)
		b, _, e := score.Blank(w, calipers, 3)
		if e != api.OK {
			continue
		}
		seen++
		easier := w
		for _, s := range []*api.Span{&easier.Length, &easier.Width, &easier.Height} {
			*s = to(max(0, s.Low-r.Intn(3)*r.Intn(2)), s.High+r.Intn(3)*r.Intn(2))
		}
		for _, s := range []*api.Span{&easier.Outer, &easier.Inner} {
			*s = to(s.Low-r.Intn(3)*r.Intn(2), s.High+r.Intn(3)*r.Intn(2))
		}
		low := some(r, calipers.Low, calipers.High)
		narrower := to(low, some(r, low, calipers.High))
		x, _, e := score.Blank(easier, calipers, 3)
		y, _, f := score.Blank(w, narrower, 3)
		if e != api.OK || f != api.OK || compare(x, b) > 0 || compare(y, b) > 0 {
			t.Error(w, calipers, b, easier, x, e, narrower, y, f)
		}
	}
	if seen < 300 {
		t.Error("too few blanks:", seen)
	}
}
