package score_test

import (
	"math/rand"
	"slices"
	"testing"

	"testliner/api"
	"testliner/score"
)

// P2.2: the chapter's example 1, and measures that are at their limits.
func TestInnerExamples(t *testing.T) {
	least := changed(func(b *api.ScoreBlank) {
		b.Panels, b.Height, b.Top, b.Bottom = []int{1, 2, 3000, 2999}, 3, []int{0, 1}, []int{3000, 2998}
	})
	for i, c := range []struct {
		b   api.ScoreBlank
		off int
		l   []api.Span
	}{
		{chapterBlank(), 0, []api.Span{to(300000, 301000), to(200000, 201000), to(300000, 301000), to(200000, 201000), to(200000, 202000), to(-2000, -1000), to(98000, 99000), to(-2000, -1000), to(98000, 99000)}},
		{chapterBlank(), 1, []api.Span{to(299000, 302000), to(199000, 202000), to(299000, 302000), to(199000, 202000), to(199000, 203000), to(-5000, 2000), to(95000, 102000), to(-5000, 2000), to(95000, 102000)}},
		{opened(), 5, []api.Span{to(295000, 306000), to(195000, 206000), to(295000, 306000), to(195000, 206000), to(199000, 210000), to(195000, 206000), to(295000, 306000), to(-17000, 14000), to(83000, 114000)}},
		{least, 2, []api.Span{to(-3000, 0), to(-3000, 1000), to(2994000, 2997000), to(2993000, 2997000), to(-7000, -1000), to(-7000, 1000), to(-9000, 0), to(-6003000, -5995000), to(-6003000, -5992000)}},
	} {
		if l, e := score.Inner(c.b, to(3000, 4000), c.off); !slices.Equal(l, c.l) || e != api.OK {
			t.Error(i, l, e)
		}
	}
}

// reached returns from where to where each of the nine measures can be, by trying all that the measures of a blank can be at the ends of the calipers.
func reached(b api.ScoreBlank, calipers api.Span, off int) []api.Span {
	var spans []api.Span
	add := func(i, n int) {
		if i == len(spans) {
			spans = append(spans, to(n, n))
		}
		spans[i] = to(min(spans[i].Low, n), max(spans[i].High, n))
	}
	each := func(n, low, high int, do func(n int)) {
		low, high = near(n, off, low, high)
		for ; low <= high; low++ {
			do(low)
		}
	}
	for i := range 9 {
		for _, c := range []int{calipers.Low, calipers.High} {
			x := clone(b)
			switch {
			case i < 4:
				each(b.Panels[i], 1, 3000, func(n int) { x.Panels[i] = n; add(i, measures(x, c)[i]) })
			case i == 4:
				each(b.Height, 1, 3000, func(n int) { x.Height = n; add(i, measures(x, c)[i]) })
			default:
				flaps, kind := x.Top, (i-5)%2
				if i > 6 {
					flaps = x.Bottom
				}
				each(b.Panels[1-kind], 1, 3000, func(n int) {
					x.Panels[1-kind] = n
					if b.Open && i < 7 {
						add(i, measures(x, c)[i])
						return
					}
					each(flaps[kind], 0, 3000, func(f int) {
						old := flaps[kind]
						flaps[kind] = f
						add(i, measures(x, c)[i])
						flaps[kind] = old
					})
				})
			}
		}
	}
	return spans
}

// P2.2, P2.12: each measure lies in Inner whatever the truth is, and both ends are reached.
func TestInnerTried(t *testing.T) {
	r := rand.New(rand.NewSource(2))
	for i := range 600 {
		b, _ := someBlank(r, []int{8, 300, 3000}[i%3])
		if i%5 == 0 {
			b.Panels[r.Intn(4)], b.Bottom[r.Intn(2)], b.Height = some(r, 2996, 3000), some(r, 2996, 3000), some(r, 2996, 3000)
		}
		calipers, off := someSpan(r, 1, 10000, 3000), r.Intn(6)
		l, e := score.Inner(b, calipers, off)
		if want := reached(b, calipers, off); !slices.Equal(l, want) || e != api.OK {
			t.Error(b, calipers, off, l, e, want)
			continue
		}
		for range 20 {
			truth := someTruth(r, b, off)
			for k, m := range measures(truth, some(r, calipers.Low, calipers.High)) {
				if m < l[k].Low || m > l[k].High {
					t.Error(b, calipers, off, truth, k, m, l[k])
				}
			}
		}
	}
}
