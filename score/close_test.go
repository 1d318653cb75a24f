package score_test

import (
	"math/rand"
	"slices"
	"testing"

	"testliner/api"
	"testliner/score"
)

// bads returns checks and calipers that stand one after another.
func bads(l ...int) []api.ScoreBad {
	var out []api.ScoreBad
	for i := 0; i < len(l); i += 2 {
		out = append(out, api.ScoreBad{Check: l[i], Caliper: l[i+1]})
	}
	return out
}

// opened returns the blank of the examples, open.
func opened() api.ScoreBlank {
	return changed(func(b *api.ScoreBlank) { b.Open, b.Top = true, []int{0, 0} })
}

// P2.3, P2.4: the chapter's examples 2 and 3, and each check on its own.
func TestCloseExamples(t *testing.T) {
	width := func(low, high int) func(w *api.ScoreWish) { return func(w *api.ScoreWish) { w.Width = to(low, high) } }
	for i, c := range []struct {
		b        api.ScoreBlank
		w        api.ScoreWish
		calipers api.Span
		bad      []api.ScoreBad
		closing  api.Span
		e        api.Errno
	}{
		{chapterBlank(), chapterWish(), to(3000, 4000), nil, to(3000, 4000), api.OK},
		{chapterBlank(), chapterWish(), to(2500, 4500), bads(0, 2500, 1, 2500, 2, 2500, 3, 2500, 4, 2500), to(3000, 4000), api.OK},
		{chapterBlank(), chapterWish(), to(3000, 4001), bads(0, 4001, 1, 4001, 2, 4001, 3, 4001, 4, 4001), to(3000, 4000), api.OK},
		{chapterBlank(), chapterWish(), to(2999, 4000), bads(0, 2999, 1, 2999, 2, 2999, 3, 2999, 4, 2999), to(3000, 4000), api.OK},
		{chapterBlank(), chapterWish(), to(4001, 4001), bads(0, 4001, 1, 4001, 2, 4001, 3, 4001, 4, 4001), to(3000, 4000), api.OK},
		{changed(func(b *api.ScoreBlank) { b.Panels[0] = 305 }), chapterWish(), to(3000, 4000), bads(0, 3000), to(4000, 4000), api.OK},
		{changed(func(b *api.ScoreBlank) { b.Panels[2] = 303 }), chapterWish(), to(3000, 4000), bads(2, 3001), to(3000, 3000), api.OK},
		{changed(func(b *api.ScoreBlank) { b.Panels[3] = 206 }), chapterWish(), to(3000, 4000), bads(3, 3000), api.Span{}, api.ErrNone},
		{chapterBlank(), wished(width(199, 199)), to(3000, 4000), bads(1, 3000, 3, 3000), api.Span{}, api.ErrNone},
		{changed(func(b *api.ScoreBlank) { b.Height = 209 }), chapterWish(), to(3000, 4000), bads(4, 3000), to(3500, 4000), api.OK},
		{changed(func(b *api.ScoreBlank) { b.Top[0] = 102 }), chapterWish(), to(3000, 4000), bads(5, 3001), to(3000, 3000), api.OK},
		{changed(func(b *api.ScoreBlank) { b.Top[1] = 50 }), chapterWish(), to(3000, 4000), bads(6, 3000), to(4000, 4000), api.OK},
		{changed(func(b *api.ScoreBlank) { b.Bottom[0] = 100 }), chapterWish(), to(3000, 4000), bads(7, 3000), to(4000, 4000), api.OK},
		{changed(func(b *api.ScoreBlank) { b.Bottom[1] = 151 }), chapterWish(), to(3000, 4000), bads(8, 3000), api.Span{}, api.ErrNone},
		{changed(func(b *api.ScoreBlank) { b.Slot = 3 }), chapterWish(), to(3000, 4000), bads(9, 3001), to(3000, 3000), api.OK},
		{changed(func(b *api.ScoreBlank) { b.Slot = 0 }), chapterWish(), to(3000, 4000), bads(9, 3000), api.Span{}, api.ErrNone},
		{opened(), wished(func(w *api.ScoreWish) { w.Open, w.Height = true, to(204, 205) }), to(3000, 4000), nil, to(3000, 4000), api.OK},
		{opened(), wished(func(w *api.ScoreWish) { w.Height = to(204, 205) }), to(3000, 4000), bads(5, 3000), api.Span{}, api.ErrNone},
		{chapterBlank(), wished(func(w *api.ScoreWish) { w.Open = true }), to(3000, 4000), bads(5, 3000), api.Span{}, api.ErrNone},
		{opened(), wished(func(w *api.ScoreWish) { w.Open = true }), to(3000, 4000), bads(4, 3000), api.Span{}, api.ErrNone},
	} {
		bad, e := score.Close(c.b, c.w, c.calipers)
		if !slices.Equal(bad, c.bad) || e != api.OK {
			t.Error(i, bad, e)
		}
		if closing, e := score.Calipers(c.b, c.w); closing != c.closing || e != c.e {
			t.Error(i, closing, e)
		}
	}
}

// P2.4: a blank can close with the least caliper that there is, and with the greatest.
func TestCalipersEnds(t *testing.T) {
	wide := api.ScoreWish{Length: to(0, 3000), Width: to(0, 3000), Height: to(0, 3000), Outer: to(-3000, 3000), Inner: to(-3000, 3000)}
	b := changed(func(b *api.ScoreBlank) { b.Slot = 20 })
	if s, e := score.Calipers(b, wide); s != to(1, 10000) || e != api.OK {
		t.Error(s, e)
	}
	b.Slot = 10
	wide.Length.High = 303
	if s, e := score.Calipers(b, wide); s != to(1000, 10000) || e != api.OK {
		t.Error(s, e)
	}
	b.Panels[1] = 10
	if s, e := score.Calipers(b, wide); s != to(1000, 10000) || e != api.OK {
		t.Error(s, e)
	}
	b.Panels[1] = 9
	if s, e := score.Calipers(b, wide); s != to(1000, 9000) || e != api.OK {
		t.Error(s, e)
	}
}

// P2.3, P2.4, P2.10: each check is tried with each caliper.
func TestCloseTried(t *testing.T) {
	r := rand.New(rand.NewSource(1))
	closed := 0
	for i := range 400 {
		b, w := someBlank(r, []int{12, 300, 3000}[i%3])
		calipers := someSpan(r, 1, 10000, []int{3, 700, 9999}[r.Intn(3)])
		var want []api.ScoreBad
		for check := range 10 {
			for c := calipers.Low; c <= calipers.High; c++ {
				if !holds(b, w, check, c) {
					want = append(want, api.ScoreBad{Check: check, Caliper: c})
					break
				}
			}
		}
		bad, e := score.Close(b, w, calipers)
		if !slices.Equal(bad, want) || e != api.OK {
			t.Error(b, w, calipers, bad, e, want)
		}
		var with []int
		for c := 1; c <= 10000; c++ {
			if closes(b, w, c) {
				with = append(with, c)
			}
		}
		closing, e := score.Calipers(b, w)
		if len(with) == 0 {
			if closing != (api.Span{}) || e != api.ErrNone {
				t.Error(b, w, closing, e)
			}
			continue
		}
		closed++
		if closing != to(with[0], with[len(with)-1]) || len(with) != closing.High-closing.Low+1 || e != api.OK {
			t.Error(b, w, closing, e, with[0], len(with))
		}
		if lies := closing.Low <= calipers.Low && calipers.High <= closing.High; lies != (len(bad) == 0) {
			t.Error(b, w, calipers, closing, bad)
		}
	}
	if closed < 30 {
		t.Error("too few blanks close:", closed)
	}
}
