package score_test

import (
	"math"
	"reflect"
	"slices"
	"testing"

	"testliner/api"
	"testliner/score"
)

// badWish is a wish that is not valid, badSpan are calipers that are not.
var (
	badWish = api.ScoreWish{Length: to(1, 0)}
	badSpan = to(0, 0)
)

// errorsWith returns the errors of all functions with a blank, and checks that all else that they return is zero if there is one.
func errorsWith(t *testing.T, b api.ScoreBlank, w api.ScoreWish, calipers api.Span, off int, thing []int) map[string]api.Errno {
	t.Helper()
	got := map[string]api.Errno{}
	add := func(name string, e api.Errno, results ...any) {
		got[name] = e
		for _, x := range results {
			v := reflect.ValueOf(x)
			if e != api.OK && !v.IsZero() && !(v.Kind() == reflect.Slice && v.Len() == 0) {
				t.Errorf("%s: %d with %v", name, e, x)
			}
		}
	}
	add("Check", score.Check(b))
	inner, e := score.Inner(b, calipers, off)
	add("Inner", e, inner)
	bad, e := score.Close(b, w, calipers)
	add("Close", e, bad)
	closing, e := score.Calipers(b, w)
	add("Calipers", e, closing)
	caliper, e := score.May(b, w, calipers, off)
	add("May", e, caliper)
	across, along, area, e := score.Size(b)
	add("Size", e, across, along, area)
	first, second, e := score.Scores(b)
	add("Scores", e, first, second)
	play, e := score.Play(b, chapterBlank(), calipers, to(1, 1))
	add("Play", e, play)
	play, e = score.Play(chapterBlank(), b, to(1, 1), calipers)
	add("Play second", e, play)
	surely, possibly, e := score.Holds(b, calipers, thing)
	add("Holds", e, surely, possibly)
	return got
}

// P2.1: what is wrong with a blank, and the limits that can just be reached; all functions have these errors before all others.
func TestCheck(t *testing.T) {
	cases := map[string]struct {
		change func(b *api.ScoreBlank)
		e      api.Errno
	}{
		"chapter":              {func(b *api.ScoreBlank) {}, api.OK},
		"no panels":            {func(b *api.ScoreBlank) { b.Panels = nil }, api.ErrForm},
		"empty panels":         {func(b *api.ScoreBlank) { b.Panels = []int{} }, api.ErrForm},
		"three panels":         {func(b *api.ScoreBlank) { b.Panels = b.Panels[:3] }, api.ErrForm},
		"five panels":          {func(b *api.ScoreBlank) { b.Panels = append(b.Panels, 5) }, api.ErrForm},
		"one at the top":       {func(b *api.ScoreBlank) { b.Top = b.Top[:1] }, api.ErrForm},
		"three at the top":     {func(b *api.ScoreBlank) { b.Top = append(b.Top, 0) }, api.ErrForm},
		"none at an open top":  {func(b *api.ScoreBlank) { b.Open, b.Top = true, nil }, api.ErrForm},
		"one at the bottom":    {func(b *api.ScoreBlank) { b.Bottom = b.Bottom[:1] }, api.ErrForm},
		"three at the bottom":  {func(b *api.ScoreBlank) { b.Bottom = append(b.Bottom, 0) }, api.ErrForm},
		"form before tab":      {func(b *api.ScoreBlank) { b.Bottom, b.Tab = nil, -1 }, api.ErrForm},
		"tab below":            {func(b *api.ScoreBlank) { b.Tab = -1 }, api.ErrArg},
		"tab 0":                {func(b *api.ScoreBlank) { b.Tab = 0 }, api.OK},
		"tab 100":              {func(b *api.ScoreBlank) { b.Tab = 100 }, api.OK},
		"tab 101":              {func(b *api.ScoreBlank) { b.Tab = 101 }, api.ErrArg},
		"tab least of all":     {func(b *api.ScoreBlank) { b.Tab = math.MinInt }, api.ErrArg},
		"first panel 0":        {func(b *api.ScoreBlank) { b.Panels[0] = 0 }, api.ErrArg},
		"last panel 0":         {func(b *api.ScoreBlank) { b.Panels[3] = 0 }, api.ErrArg},
		"panels 1":             {func(b *api.ScoreBlank) { b.Panels = []int{1, 1, 1, 1} }, api.OK},
		"panels 3000":          {func(b *api.ScoreBlank) { b.Panels = []int{3000, 3000, 3000, 3000} }, api.OK},
		"panel 3001":           {func(b *api.ScoreBlank) { b.Panels[2] = 3001 }, api.ErrArg},
		"panel greatest":       {func(b *api.ScoreBlank) { b.Panels[1] = math.MaxInt }, api.ErrArg},
		"height 0":             {func(b *api.ScoreBlank) { b.Height = 0 }, api.ErrArg},
		"height 1":             {func(b *api.ScoreBlank) { b.Height = 1 }, api.OK},
		"height 3000":          {func(b *api.ScoreBlank) { b.Height = 3000 }, api.OK},
		"height 3001":          {func(b *api.ScoreBlank) { b.Height = 3001 }, api.ErrArg},
		"flaps 0":              {func(b *api.ScoreBlank) { b.Top, b.Bottom = []int{0, 0}, []int{0, 0} }, api.OK},
		"flaps 3000":           {func(b *api.ScoreBlank) { b.Top, b.Bottom = []int{3000, 3000}, []int{3000, 3000} }, api.OK},
		"outer flap below":     {func(b *api.ScoreBlank) { b.Top[0] = -1 }, api.ErrArg},
		"inner flap below":     {func(b *api.ScoreBlank) { b.Bottom[1] = -1 }, api.ErrArg},
		"outer flap 3001":      {func(b *api.ScoreBlank) { b.Bottom[0] = 3001 }, api.ErrArg},
		"inner flap 3001":      {func(b *api.ScoreBlank) { b.Top[1] = 3001 }, api.ErrArg},
		"slot below":           {func(b *api.ScoreBlank) { b.Slot = -1 }, api.ErrArg},
		"slot 0":               {func(b *api.ScoreBlank) { b.Slot = 0 }, api.OK},
		"slot 20":              {func(b *api.ScoreBlank) { b.Slot = 20 }, api.OK},
		"slot 21":              {func(b *api.ScoreBlank) { b.Slot = 21 }, api.ErrArg},
		"open":                 {func(b *api.ScoreBlank) { b.Open, b.Top = true, []int{0, 0} }, api.OK},
		"open with outer flap": {func(b *api.ScoreBlank) { b.Open, b.Top = true, []int{1, 0} }, api.ErrArg},
		"open with inner flap": {func(b *api.ScoreBlank) { b.Open, b.Top = true, []int{0, 1} }, api.ErrArg},
	}
	for name, c := range cases {
		b := changed(c.change)
		if c.e == api.OK {
			if e := score.Check(b); e != api.OK {
				t.Errorf("%s: %d", name, e)
			}
			continue
		}
		for f, e := range errorsWith(t, b, badWish, badSpan, -1, nil) {
			if e != c.e {
				t.Errorf("%s: %s: %d, want %d", name, f, e, c.e)
			}
		}
	}
}

// P2.1: of a lid and a base the lid's errors come first, and calipers of both come after both.
func TestPlayErrors(t *testing.T) {
	form := changed(func(b *api.ScoreBlank) { b.Top = nil })
	arg := changed(func(b *api.ScoreBlank) { b.Tab = -1 })
	fine, good := chapterBlank(), to(1, 10000)
	for i, c := range []struct {
		lid, base   api.ScoreBlank
		lids, bases api.Span
		e           api.Errno
	}{
		{arg, form, badSpan, badSpan, api.ErrArg},
		{form, arg, badSpan, badSpan, api.ErrForm},
		{fine, arg, badSpan, badSpan, api.ErrArg},
		{fine, form, badSpan, badSpan, api.ErrForm},
		{fine, fine, badSpan, good, api.ErrRange},
		{fine, fine, good, badSpan, api.ErrRange},
		{fine, fine, good, good, api.OK},
	} {
		if l, e := score.Play(c.lid, c.base, c.lids, c.bases); e != c.e || e != api.OK && len(l) != 0 {
			t.Error(i, l, e)
		}
	}
}

// P2.1: what is wrong with a wish, and the limits that can just be reached.
func TestWish(t *testing.T) {
	fields := map[string]func(w *api.ScoreWish) *api.Span{
		"Length": func(w *api.ScoreWish) *api.Span { return &w.Length },
		"Width":  func(w *api.ScoreWish) *api.Span { return &w.Width },
		"Height": func(w *api.ScoreWish) *api.Span { return &w.Height },
		"Outer":  func(w *api.ScoreWish) *api.Span { return &w.Outer },
		"Inner":  func(w *api.ScoreWish) *api.Span { return &w.Inner },
	}
	for name, field := range fields {
		low := 0
		if name == "Outer" || name == "Inner" {
			low = -3000
		}
		for s, e := range map[api.Span]api.Errno{
			to(low, 3000): api.OK, to(low, low): api.OK, to(3000, 3000): api.OK, to(low-1, 5): api.ErrArg,
			to(5, 3001): api.ErrArg, to(7, 6): api.ErrArg, to(math.MaxInt, math.MinInt): api.ErrArg, to(math.MinInt, math.MaxInt): api.ErrArg,
		} {
			for _, open := range []bool{false, true} {
				w := chapterWish()
				w.Open = open
				*field(&w) = s
				if got := score.Wish(w); got != e {
					t.Errorf("%s %v: %d", name, s, got)
				}
				if e != api.OK {
					wishErrors(t, w)
				}
			}
		}
	}
}

// wishErrors checks that a wish which is not valid is told before calipers, off and tab.
func wishErrors(t *testing.T, w api.ScoreWish) {
	t.Helper()
	got := errorsWith(t, chapterBlank(), w, badSpan, -1, nil)
	if got["Close"] != api.ErrArg || got["Calipers"] != api.ErrArg || got["May"] != api.ErrArg {
		t.Error(w, got)
	}
	if b, check, e := score.Blank(w, badSpan, -1); e != api.ErrArg || check != 0 || !reflect.ValueOf(b).IsZero() {
		t.Error(w, b, check, e)
	}
}

// P2.1: calipers are a valid span from 1 to 10000; their error comes before those of off, tab and thing.
func TestCaliperErrors(t *testing.T) {
	for _, s := range []api.Span{to(0, 0), to(0, 5), to(5, 4), to(1, 10001), to(10001, 10001), to(-2, -1), to(math.MinInt, math.MaxInt)} {
		got := errorsWith(t, chapterBlank(), chapterWish(), s, -1, nil)
		for _, f := range []string{"Inner", "Close", "May", "Play", "Play second", "Holds"} {
			if got[f] != api.ErrRange {
				t.Error(s, f, got[f])
			}
		}
		if b, check, e := score.Blank(chapterWish(), s, -1); e != api.ErrRange || check != 0 || !reflect.ValueOf(b).IsZero() {
			t.Error(s, b, check, e)
		}
	}
	for _, s := range []api.Span{to(1, 1), to(1, 10000), to(10000, 10000)} {
		got := errorsWith(t, chapterBlank(), chapterWish(), s, 0, []int{0, 0, 0})
		for _, f := range []string{"Inner", "Close", "Play", "Play second", "Holds"} {
			if got[f] != api.OK {
				t.Error(s, f, got[f])
			}
		}
	}
}

// P2.2, P2.5, P2.6, P2.9: the errors that these functions name last.
func TestOwnErrors(t *testing.T) {
	calipers := to(3000, 4000)
	for off, e := range map[int]api.Errno{-1: api.ErrNone, 0: api.OK, 5: api.OK, 6: api.ErrNone, math.MinInt: api.ErrNone, math.MaxInt: api.ErrNone} {
		got := errorsWith(t, chapterBlank(), chapterWish(), calipers, off, []int{1, 1, 1})
		if got["Inner"] != e || got["May"] != e {
			t.Error(off, got)
		}
		// A blank that cannot close is told after off.
		never := wished(func(w *api.ScoreWish) { w.Open = true })
		if _, f := score.May(chapterBlank(), never, calipers, off); e != api.OK && f != e || e == api.OK && f != api.ErrState {
			t.Error(off, f)
		}
	}
	for tab, e := range map[int]api.Errno{-1: api.ErrLong, 0: api.OK, 100: api.OK, 101: api.ErrLong, math.MinInt: api.ErrLong} {
		if b, check, f := score.Blank(chapterWish(), calipers, tab); f != e || check != 0 || e == api.OK && b.Tab != tab || e != api.OK && !reflect.ValueOf(b).IsZero() {
			t.Error(tab, b, check, f)
		}
		// A wish that no blank meets is told after the tab.
		if _, check, f := score.Blank(chapterWish(), to(1, 10000), tab); e != api.OK && (f != e || check != 0) || e == api.OK && f != api.ErrState {
			t.Error(tab, check, f)
		}
	}
	for i, c := range []struct {
		thing []int
		e     api.Errno
	}{
		{nil, api.ErrForm}, {[]int{}, api.ErrForm}, {[]int{1, 1}, api.ErrForm}, {[]int{1, 1, 1, 1}, api.ErrForm}, {[]int{-1, 1, 1, 1}, api.ErrForm},
		{[]int{-1, 1, 1}, api.ErrArg}, {[]int{1, 1, -1}, api.ErrArg}, {[]int{1, 3001, 1}, api.ErrArg}, {[]int{1, math.MaxInt, 1}, api.ErrArg},
		{[]int{0, 0, 0}, api.OK}, {[]int{3000, 3000, 3000}, api.OK},
	} {
		if got := errorsWith(t, chapterBlank(), chapterWish(), calipers, 0, c.thing); got["Holds"] != c.e {
			t.Error(i, got["Holds"])
		}
	}
}

// P2, R4: no argument is changed, nor the spare room behind it, and results are new memory.
func TestMemory(t *testing.T) {
	roomy := func(l ...int) []int { return append(make([]int, 0, len(l)+2), l...) }
	b := chapterBlank()
	b.Panels, b.Top, b.Bottom = roomy(b.Panels...), roomy(b.Top...), roomy(b.Bottom...)
	thing := roomy(300, 10, 200)
	lists := [][]int{b.Panels[:6], b.Top[:4], b.Bottom[:4], thing[:5]}
	var before [][]int
	for _, l := range lists {
		before = append(before, slices.Clone(l))
	}
	for range 2 {
		for f, e := range errorsWith(t, b, chapterWish(), to(3000, 4000), 2, thing) {
			if e != api.OK {
				t.Error(f, e)
			}
		}
		across, along, _ := score.Scores(b)
		inner, _ := score.Inner(b, to(3000, 4000), 0)
		play, _ := score.Play(b, b, to(1, 2), to(1, 2))
		made, _, e := score.Blank(chapterWish(), to(3000, 4000), 35)
		want := api.ScoreBlank{Tab: 35, Panels: []int{304, 204, 304, 204}, Height: 208, Top: []int{101, 51}, Bottom: []int{101, 51}, Slot: 4}
		if e != api.OK || !reflect.DeepEqual(made, want) {
			t.Error(made, e)
		}
		// What is written over here must be seen nowhere else.
		for _, l := range [][]int{across, along, made.Panels, made.Top, made.Bottom} {
			for i := range l[:cap(l)] {
				l[:cap(l)][i] = -5
			}
		}
		clear(inner)
		clear(play)
		for i, l := range lists {
			if !slices.Equal(l, before[i]) {
				t.Error(i, l, before[i])
			}
		}
	}
}

// P2: the lists of a blank that Blank returns are memory of their own, each.
func TestBlankMemory(t *testing.T) {
	b, _, _ := score.Blank(chapterWish(), to(3000, 4000), 35)
	for i, n := range numbers(&b) {
		*n = -i
	}
	for i, n := range numbers(&b) {
		if *n != -i {
			t.Error(i, *n)
		}
	}
}
