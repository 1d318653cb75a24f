package score_test

import (
	"math/rand"
	"slices"

	"testliner/api"
)

// to returns a span.
func to(low, high int) api.Span { return api.Span{Low: low, High: high} }

// chapterBlank returns the blank of the chapter's examples, chapterWish their wish, changed returns it after a change.
func chapterBlank() api.ScoreBlank {
	return api.ScoreBlank{Tab: 35, Panels: []int{304, 204, 304, 204}, Height: 208, Top: []int{101, 101}, Bottom: []int{101, 101}, Slot: 6}
}

func chapterWish() api.ScoreWish {
	return api.ScoreWish{Length: to(300, 301), Width: to(200, 201), Height: to(200, 202), Outer: to(-3, 0), Inner: to(0, 200)}
}

func changed(change func(b *api.ScoreBlank)) api.ScoreBlank {
	b := chapterBlank()
	change(&b)
	return b
}

func wished(change func(w *api.ScoreWish)) api.ScoreWish {
	w := chapterWish()
	change(&w)
	return w
}

// clone returns a blank in new memory.
func clone(b api.ScoreBlank) api.ScoreBlank {
	b.Panels, b.Top, b.Bottom = slices.Clone(b.Panels), slices.Clone(b.Top), slices.Clone(b.Bottom)
	return b
}

// compare compares blanks by Panels, Top, Bottom, Height and Slot.
func compare(a, b api.ScoreBlank) int {
	list := func(x api.ScoreBlank) []int {
		return slices.Concat(x.Panels, x.Top, x.Bottom, []int{x.Height, x.Slot})
	}
	return slices.Compare(list(a), list(b))
}

// numbers returns where all measures of a blank stand: four panels, four flaps, the height and the slot.
func numbers(b *api.ScoreBlank) []*int {
	list := []*int{}
	for _, l := range [][]int{b.Panels, b.Top, b.Bottom} {
		for i := range l {
			list = append(list, &l[i])
		}
	}
	return append(list, &b.Height, &b.Slot)
}

// measures returns the four inner measures of the panels, the inner height, and the four gaps with a caliper.
func measures(b api.ScoreBlank, c int) []int {
	var list []int
	for _, p := range b.Panels {
		list = append(list, 1000*p-c)
	}
	if b.Open {
		list = append(list, 1000*b.Height-c)
	} else {
		list = append(list, 1000*b.Height-2*c)
	}
	for _, f := range [][]int{b.Top, b.Bottom} {
		list = append(list, list[1]-2000*f[0], list[0]-2000*f[1])
	}
	return list
}

// holds reports whether a check holds with a caliper, line by line of the chapter's table.
func holds(b api.ScoreBlank, w api.ScoreWish, check, c int) bool {
	m := measures(b, c)
	in := func(i int, s api.Span) bool { return 1000*s.Low <= m[i] && m[i] <= 1000*s.High }
	switch check {
	case 0:
		return in(0, w.Length)
	case 1:
		return in(1, w.Width)
	case 2:
		return in(2, w.Length)
	case 3:
		return in(3, w.Width)
	case 4:
		return in(4, w.Height)
	case 5:
		if b.Open || w.Open {
			return b.Open && w.Open
		}
		return in(5, w.Outer)
	case 6:
		return b.Open || w.Open || in(6, w.Inner)
	case 7:
		return in(7, w.Outer)
	case 8:
		return in(8, w.Inner)
	}
	return 1000*b.Slot >= c
}

// closes reports whether all checks hold with a caliper.
func closes(b api.ScoreBlank, w api.ScoreWish, c int) bool {
	for check := range 10 {
		if !holds(b, w, check, c) {
			return false
		}
	}
	return true
}

// some returns a number from low to high, someSpan a span in them that is at most wide.
func some(r *rand.Rand, low, high int) int { return low + r.Intn(high-low+1) }

func someSpan(r *rand.Rand, low, high, wide int) api.Span {
	a := some(r, low, high)
	return to(a, min(high, a+r.Intn(wide+1)))
}

// someBlank returns a blank, now and then an open one, and a wish that it meets or nearly meets with a caliper.
func someBlank(r *rand.Rand, most int) (api.ScoreBlank, api.ScoreWish) {
	b := api.ScoreBlank{Tab: r.Intn(101), Panels: make([]int, 4), Top: make([]int, 2), Bottom: make([]int, 2), Open: r.Intn(4) == 0, Slot: some(r, 0, 20)}
	b.Panels[0], b.Panels[1] = some(r, 1, most), some(r, 1, most)
	near := func(n int) int { return min(api.MaxScorePanel, max(1, n+some(r, -1, 1)*r.Intn(2))) }
	b.Panels[2], b.Panels[3] = near(b.Panels[0]), near(b.Panels[1])
	b.Height = some(r, 1, most)
	b.Bottom[0], b.Bottom[1] = some(r, 0, most), some(r, 0, most)
	if !b.Open {
		b.Top[0], b.Top[1] = near(b.Bottom[0])-1, near(b.Bottom[1])
	}
	m := measures(b, some(r, 1, 10)*500)
	around := func(low, high int, measure int) api.Span {
		a := min(high, max(low, measure/1000-r.Intn(4)))
		return to(a, min(high, a+r.Intn(8)))
	}
	w := api.ScoreWish{
		Length: around(0, api.MaxScorePanel, m[0]), Width: around(0, api.MaxScorePanel, m[1]), Height: around(0, api.MaxScorePanel, m[4]),
		Outer: around(-api.MaxScorePanel, api.MaxScorePanel, m[7]), Inner: around(-api.MaxScorePanel, api.MaxScorePanel, m[8]),
		Open: b.Open != (r.Intn(8) == 0),
	}
	return b, w
}

// near returns the least and the greatest number that a measure can truly be.
func near(n, off, low, high int) (int, int) { return max(low, n-off), min(high, n+off) }

// someTruth returns what a blank that was measured can truly be.
func someTruth(r *rand.Rand, b api.ScoreBlank, off int) api.ScoreBlank {
	x := clone(b)
	for i, n := range numbers(&x) {
		low, high := 1, api.MaxScorePanel
		switch {
		case x.Open && (i == 4 || i == 5):
			continue
		case i >= 4 && i < 8:
			low = 0
		case i == 9:
			low, high = 0, api.MaxScoreSlot
		}
		low, high = near(*n, off, low, high)
		*n = some(r, low, high)
	}
	return x
}
