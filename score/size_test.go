package score_test

import (
	"math/rand"
	"slices"
	"testing"

	"testliner/api"
	"testliner/score"
)

// P2.7: the chapter's example 5, and blanks at the limits.
func TestSize(t *testing.T) {
	greatest := api.ScoreBlank{Tab: 100, Panels: []int{3000, 3000, 3000, 3000}, Height: 3000, Top: []int{0, 3000}, Bottom: []int{3000, 0}}
	odd := api.ScoreBlank{Panels: []int{10, 20, 30, 40}, Height: 50, Top: []int{3, 7}, Bottom: []int{9, 2}}
	open := api.ScoreBlank{Tab: 1, Panels: []int{1, 1, 1, 1}, Height: 1, Top: []int{0, 0}, Bottom: []int{0, 0}, Open: true}
	for i, c := range []struct {
		b                   api.ScoreBlank
		across, along, area int
		first, second       []int
	}{
		{chapterBlank(), 1051, 410, 430910, []int{35, 339, 543, 847}, []int{101, 309}},
		{odd, 100, 66, 6600, []int{0, 10, 30, 60}, []int{7, 57}},
		{open, 5, 1, 5, []int{1, 2, 3, 4}, []int{0, 1}},
		{greatest, 12100, 9000, 108900000, []int{100, 3100, 6100, 9100}, []int{3000, 6000}},
	} {
		across, along, area, e := score.Size(c.b)
		if across != c.across || along != c.along || area != c.area || e != api.OK {
			t.Error(i, across, along, area, e)
		}
		first, second, e := score.Scores(c.b)
		if !slices.Equal(first, c.first) || !slices.Equal(second, c.second) || e != api.OK {
			t.Error(i, first, second, e)
		}
	}
}

// P2.8: the chapter's example 6, and a base that is greater than its lid.
func TestPlayExamples(t *testing.T) {
	lid := changed(func(b *api.ScoreBlank) { b.Panels = []int{318, 218, 318, 218} })
	odd := changed(func(b *api.ScoreBlank) { b.Panels = []int{310, 200, 1, 3000} })
	for i, c := range []struct {
		lid, base   api.ScoreBlank
		lids, bases api.Span
		l           []api.Span
	}{
		{lid, chapterBlank(), to(3000, 4000), to(3000, 4000), []api.Span{to(6000, 8000), to(6000, 8000), to(6000, 8000), to(6000, 8000)}},
		{odd, chapterBlank(), to(1, 10), to(200, 5000), []api.Span{to(990, 5799), to(-9010, -4201), to(-308010, -303201), to(2790990, 2795799)}},
	} {
		if l, e := score.Play(c.lid, c.base, c.lids, c.bases); !slices.Equal(l, c.l) || e != api.OK {
			t.Error(i, l, e)
		}
	}
}

// P2.8, P2.13: the play is tried at all ends, and grows by as much as calipers shrink.
func TestPlayTried(t *testing.T) {
	r := rand.New(rand.NewSource(8))
	for range 500 {
		lid, _ := someBlank(r, 300)
		base, _ := someBlank(r, 300)
		lids, bases := someSpan(r, 50, 10000, 3000), someSpan(r, 50, 10000, 3000)
		l, e := score.Play(lid, base, lids, bases)
		if e != api.OK || len(l) != 4 {
			t.Fatal(l, e)
		}
		at := func(panel, c, d int) int { return 1000*lid.Panels[panel] - c - (1000*base.Panels[panel] - d + 2*d) }
		for panel, s := range l {
			ends := []int{at(panel, lids.Low, bases.Low), at(panel, lids.Low, bases.High), at(panel, lids.High, bases.Low), at(panel, lids.High, bases.High)}
			if s != to(slices.Min(ends), slices.Max(ends)) {
				t.Error(lid, base, lids, bases, panel, s, ends)
			}
		}
		less, lessBase := r.Intn(50), r.Intn(50)
		closer, _ := score.Play(lid, base, to(lids.Low-less, lids.High-less), bases)
		both, _ := score.Play(lid, base, to(lids.Low-less, lids.High-less), to(bases.Low-lessBase, bases.High-lessBase))
		for panel, s := range l {
			if closer[panel] != to(s.Low+less, s.High+less) || both[panel] != to(s.Low+less+lessBase, s.High+less+lessBase) {
				t.Error(l, less, lessBase, closer, both)
			}
		}
	}
}

// P2.9: the chapter's example 7, and things that just fit, in any order.
func TestHoldsExamples(t *testing.T) {
	for i, c := range []struct {
		b                api.ScoreBlank
		thing            []int
		surely, possibly bool
	}{
		{chapterBlank(), []int{200, 300, 201}, false, true},
		{chapterBlank(), []int{300, 200, 200}, true, true},
		{chapterBlank(), []int{200, 200, 300}, true, true},
		{chapterBlank(), []int{200, 300, 200}, true, true},
		{chapterBlank(), []int{301, 201, 202}, false, true},
		{chapterBlank(), []int{202, 201, 301}, false, true},
		{chapterBlank(), []int{302, 0, 0}, false, false},
		{chapterBlank(), []int{202, 202, 202}, false, false},
		{chapterBlank(), []int{0, 0, 0}, true, true},
		{chapterBlank(), []int{3000, 3000, 3000}, false, false},
		{changed(func(b *api.ScoreBlank) { b.Panels[0] = 254 }), []int{250, 1, 1}, true, true},
		{changed(func(b *api.ScoreBlank) { b.Panels[0] = 254 }), []int{251, 1, 1}, false, true},
		{changed(func(b *api.ScoreBlank) { b.Panels[2] = 254 }), []int{1, 252, 1}, false, false},
		{changed(func(b *api.ScoreBlank) { b.Panels[1], b.Height = 4, 500 }), []int{1, 1, 1}, false, true},
		{changed(func(b *api.ScoreBlank) { b.Panels[3], b.Height = 4, 500 }), []int{1, 1, 1}, false, true},
		{opened(), []int{204, 200, 300}, true, true},
		{opened(), []int{205, 201, 301}, false, true},
		// A box can be so narrow that not even nothing fits.
		{changed(func(b *api.ScoreBlank) { b.Height = 6 }), []int{0, 0, 0}, false, true},
		{changed(func(b *api.ScoreBlank) { b.Height = 5 }), []int{0, 0, 0}, false, false},
	} {
		surely, possibly, e := score.Holds(c.b, to(3000, 4000), c.thing)
		if surely != c.surely || possibly != c.possibly || e != api.OK {
			t.Error(i, surely, possibly, e)
		}
	}
}

// fits reports whether a thing fits with a caliper, by all six orders.
func fits(b api.ScoreBlank, thing []int, c int) bool {
	m := measures(b, c)
	long, wide, high := min(m[0], m[2]), min(m[1], m[3]), m[4]
	for i := range 3 {
		for j := range 3 {
			k := 3 - i - j
			if i != j && 1000*thing[i] <= long && 1000*thing[j] <= wide && 1000*thing[k] <= high {
				return true
			}
		}
	}
	return false
}

// P2.9, P2.13: all orders and all calipers are tried; what fits surely fits possibly, a smaller thing fits if a greater one does, and with smaller calipers no less fits.
func TestHoldsTried(t *testing.T) {
	r := rand.New(rand.NewSource(9))
	seen := map[[2]bool]int{}
	for range 4000 {
		b, _ := someBlank(r, 14)
		calipers := someSpan(r, 10, 5000, 900)
		thing := []int{r.Intn(9), r.Intn(9), r.Intn(9)}
		surely, possibly, e := score.Holds(b, calipers, thing)
		all, any := true, false
		for c := calipers.Low; c <= calipers.High; c++ {
			now := fits(b, thing, c)
			all, any = all && now, any || now
		}
		if surely != all || possibly != any || e != api.OK || surely && !possibly {
			t.Error(b, calipers, thing, surely, possibly, e)
		}
		seen[[2]bool{surely, possibly}]++
		smaller := []int{r.Intn(thing[0] + 1), r.Intn(thing[1] + 1), r.Intn(thing[2] + 1)}
		if s, p, _ := score.Holds(b, calipers, smaller); surely && !s || possibly && !p {
			t.Error(b, calipers, thing, smaller)
		}
		less := to(calipers.Low-r.Intn(10), calipers.High)
		less.High -= r.Intn(less.High - less.Low + 1)
		if s, p, _ := score.Holds(b, less, thing); surely && !s || possibly && !p {
			t.Error(b, calipers, thing, less)
		}
	}
	if len(seen) != 3 {
		t.Error(seen)
	}
}
