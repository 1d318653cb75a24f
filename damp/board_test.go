package damp_test

import (
	"math/rand"
	"slices"
	"testing"

	"testliner/api"
	"testliner/damp"
)

// P11.2: the chapter's example, and the edges.
func TestAfterExamples(t *testing.T) {
	for name, c := range map[string]struct {
		r          api.DampRule
		start      api.Span
		stays      []api.DampStay
		after      []api.Span
		peak, hour int
	}{
		"the chapter's":           {chapterRule(), to(60, 70), chapterStays(), list(to(80, 90), to(60, 70)), 90, 2},
		"no stays":                {chapterRule(), to(60, 70), nil, nil, 70, 0},
		"stays of no hours":       {chapterRule(), to(60, 70), list(stay(90, 100, 0), stay(0, 0, 0)), list(to(60, 70), to(60, 70)), 70, 0},
		"up to the room's":        {chapterRule(), to(60, 70), list(stay(75, 75, 1)), list(to(70, 75)), 75, 1},
		"just up to it":           {chapterRule(), to(60, 60), list(stay(70, 70, 1)), list(to(70, 70)), 70, 1},
		"one too far":             {chapterRule(), to(60, 60), list(stay(71, 71, 1)), list(to(70, 70)), 70, 1},
		"just down to it":         {chapterRule(), to(60, 60), list(stay(56, 56, 1)), list(to(56, 56)), 60, 0},
		"one too far down":        {chapterRule(), to(60, 60), list(stay(55, 55, 1)), list(to(56, 56)), 60, 0},
		"one too far, 2 hours":    {chapterRule(), to(60, 60), list(stay(55, 55, 2)), list(to(55, 55)), 60, 0},
		"as moist as the room":    {chapterRule(), to(60, 60), list(stay(60, 60, 500)), list(to(60, 60)), 60, 0},
		"one end up, one down":    {chapterRule(), to(40, 90), list(stay(60, 70, 1)), list(to(50, 86)), 90, 0},
		"it never changes":        {rule(0, 0), to(40, 90), list(stay(0, 300, 500)), list(to(40, 90)), 90, 0},
		"it only rises":           {rule(50, 0), to(40, 90), list(stay(0, 100, 1), stay(0, 0, 500)), list(to(40, 100), to(40, 100)), 100, 1},
		"it only falls":           {rule(0, 50), to(40, 90), list(stay(0, 300, 1), stay(300, 300, 500)), list(to(0, 90), to(0, 90)), 90, 0},
		"the peak in the middle":  {rule(10, 10), to(0, 0), list(stay(30, 30, 5), stay(0, 0, 5)), list(to(30, 30), to(0, 0)), 30, 3},
		"the peak twice":          {rule(10, 10), to(0, 0), list(stay(30, 30, 3), stay(0, 0, 3), stay(30, 30, 3)), list(to(30, 30), to(0, 0), to(30, 30)), 30, 3},
		"a peak above the peak":   {rule(10, 10), to(0, 0), list(stay(30, 30, 3), stay(0, 0, 3), stay(31, 31, 9)), list(to(30, 30), to(0, 0), to(31, 31)), 31, 10},
		"behind stays of 0 hours": {rule(10, 10), to(5, 5), list(stay(5, 5, 0), stay(5, 5, 2), stay(9, 9, 0), stay(7, 7, 1)), list(to(5, 5), to(5, 5), to(5, 5), to(7, 7)), 7, 3},
		"the peak at the end":     {rule(1, 1), to(0, 0), list(stay(300, 300, 500)), list(to(300, 300)), 300, 300},
		"all at their limits":     {rule(50, 50), to(300, 300), slices.Repeat(list(stay(0, 300, 500)), 10), slices.Repeat(list(to(0, 300)), 10), 300, 0},
		"the last hour of all":    {rule(1, 0), to(0, 0), append(slices.Repeat(list(stay(0, 0, 500)), 9), stay(0, 300, 300)), append(slices.Repeat(list(to(0, 0)), 9), to(0, 300)), 300, 4800},
	} {
		if after, e := damp.After(c.r, c.start, c.stays); !slices.Equal(after, c.after) || e != api.OK {
			t.Error(name, after, e)
		}
		if peak, hour, e := damp.Peak(c.r, c.start, c.stays); peak != c.peak || hour != c.hour || e != api.OK {
			t.Error(name, peak, hour, e)
		}
	}
}

// P11.2, P11.8: against all truths, hour by hour.
func TestAfter(t *testing.T) {
	r := rand.New(rand.NewSource(1))
	later := 0
	for i := range 2500 {
		moist := pick(r, 8, 20, 40)
		if i%50 == 0 {
			moist = 300
		}
		x, start, stays := someRule(r), someMoist(r, 0, moist), someStays(r, 6, moist, 12)
		want, high, first := trueStays(x, start, stays)
		if after, e := damp.After(x, start, stays); !slices.Equal(after, want) || e != api.OK {
			t.Fatal(x, start, stays, after, want, e)
		}
		if peak, hour, e := damp.Peak(x, start, stays); peak != high || hour != first || e != api.OK {
			t.Fatal(x, start, stays, peak, hour, high, first, e)
		}
		later += min(first, 1)
	}
	if later < 500 {
		t.Error(later)
	}
}

// walk lets a board of a true moisture lie through stays; truth returns the true moisture of a room in each hour.
func walk(x api.DampRule, moist int, stays []api.DampStay, truth func(api.Span) int) (hours []int, ends []int) {
	hours = append(hours, moist)
	for _, s := range stays {
		for range s.Hours {
			moist = comes(x, moist, truth(s.Room))
			hours = append(hours, moist)
		}
		ends = append(ends, moist)
	}
	return hours, ends
}

// P11.8: with numbers up to the limits, boards of all kinds of truths lie in After and below Peak, and the driest and the moistest one reach the ends and the peak.
func TestAllTruths(t *testing.T) {
	r := rand.New(rand.NewSource(2))
	for range 2000 {
		x, start, stays := someRule(r), someMoist(r, 0, 300), someStays(r, 10, 300, pick(r, 20, 500))
		after, e := damp.After(x, start, stays)
		peak, hour, f := damp.Peak(x, start, stays)
		if len(after) != len(stays) || e+f != api.OK {
			t.Fatal(x, start, stays, after, e, f)
		}
		for range 5 {
			truth := pick(r,
				func(s api.Span) int { return some(r, s.Low, s.High) },
				func(s api.Span) int { return pick(r, s.Low, s.High) },
			)
			hours, ends := walk(x, truth(start), stays, truth)
			for i, end := range ends {
				if end < after[i].Low || end > after[i].High {
					t.Fatal(x, start, stays, after, ends)
				}
			}
			if slices.Max(hours) > peak || hour > 0 && slices.Max(hours[:hour]) == peak {
				t.Fatal(x, start, stays, peak, hour, hours)
			}
		}
		_, driest := walk(x, start.Low, stays, func(s api.Span) int { return s.Low })
		hours, moistest := walk(x, start.High, stays, func(s api.Span) int { return s.High })
		for i := range stays {
			if after[i] != to(driest[i], moistest[i]) {
				t.Fatal(x, start, stays, after, driest, moistest)
			}
		}
		if hour != slices.Index(hours, peak) || slices.Max(hours) != peak {
			t.Fatal(x, start, stays, peak, hour, hours)
		}
	}
}

// P11.8: with narrower spans no span is wider, and a peak is not higher.
func TestNarrower(t *testing.T) {
	r := rand.New(rand.NewSource(3))
	for range 3000 {
		x, start, stays := someRule(r), someMoist(r, 0, 300), someStays(r, 10, 300, 40)
		less := slices.Clone(stays)
		for i := range less {
			less[i].Room = narrower(r, less[i].Room)
		}
		begin := narrower(r, start)
		after, e := damp.After(x, start, stays)
		then, f := damp.After(x, begin, less)
		peak, _, g := damp.Peak(x, start, stays)
		lower, _, h := damp.Peak(x, begin, less)
		if lower > peak || e+f+g+h != api.OK || !slices.EqualFunc(then, after, within) {
			t.Fatal(x, start, stays, begin, less, after, then, peak, lower)
		}
	}
}

// P11.3: the chapter's example, and the edges.
func TestHoursExamples(t *testing.T) {
	for name, c := range map[string]struct {
		r                  api.DampRule
		start, room, limit api.Span
		hours              int
		e                  api.Errno
	}{
		"the chapter's":          {chapterRule(), to(60, 70), to(90, 100), to(50, 85), 1, api.OK},
		"just within":            {chapterRule(), to(60, 70), to(90, 100), to(50, 90), 2, api.OK},
		"one less":               {chapterRule(), to(60, 70), to(90, 100), to(50, 89), 1, api.OK},
		"one less after an hour": {chapterRule(), to(60, 70), to(90, 100), to(50, 79), 0, api.OK},
		"too dry at once":        {chapterRule(), to(60, 70), to(0, 100), to(57, 300), 0, api.OK},
		"too dry after an hour":  {chapterRule(), to(60, 70), to(0, 100), to(56, 300), 1, api.OK},
		"forever":                {chapterRule(), to(60, 70), to(90, 100), to(60, 100), 500, api.OK},
		"not at the beginning":   {chapterRule(), to(60, 70), to(65, 66), to(61, 300), 0, api.ErrState},
		"too moist there":        {chapterRule(), to(60, 70), to(65, 66), to(0, 69), 0, api.ErrState},
		"far off":                {chapterRule(), to(60, 70), to(65, 66), to(80, 90), 0, api.ErrState},
		"by 1 up to 298":         {rule(1, 0), to(0, 0), to(300, 300), to(0, 298), 298, api.OK},
		"by 1 up to 299":         {rule(1, 0), to(0, 0), to(300, 300), to(0, 299), 299, api.OK},
		"all moistures":          {rule(50, 50), to(0, 300), to(0, 300), to(0, 300), 500, api.OK},
		"it never changes":       {rule(0, 0), to(7, 7), to(300, 300), to(7, 7), 500, api.OK},
		"left in the first hour": {rule(3, 3), to(7, 7), to(10, 10), to(7, 7), 0, api.OK},
	} {
		if hours, e := damp.Hours(c.r, c.start, c.room, c.limit); hours != c.hours || e != c.e {
			t.Error(name, hours, e)
		}
	}
}

// P11.3, P11.8: against all truths, hour by hour.
func TestHours(t *testing.T) {
	r := rand.New(rand.NewSource(4))
	seen := map[string]int{}
	for i := range 4000 {
		moist := pick(r, 8, 20, 40)
		if i%50 == 0 {
			moist = 300
		}
		x, start, room, limit := someRule(r), someMoist(r, 0, moist), someMoist(r, 0, moist), someMoist(r, 0, moist)
		if r.Intn(2) == 0 {
			start = narrower(r, limit)
		}
		want, due := trueHours(x, start, room, limit, 500)-1, api.OK
		if want < 0 {
			want, due = 0, api.ErrState
		}
		if hours, e := damp.Hours(x, start, room, limit); hours != want || e != due {
			t.Fatal(x, start, room, limit, hours, want, e)
		}
		switch {
		case due != api.OK:
			seen["never"]++
		case want == 0 || want == 500:
			seen["none or all"]++
		default:
			seen["some"]++
		}
	}
	if seen["never"] < 100 || seen["none or all"] < 100 || seen["some"] < 100 {
		t.Error(seen)
	}
}

// P11.8: with numbers up to the limits, a board is within the limit after each number of hours up to Hours, and not after one more.
func TestHoursGreat(t *testing.T) {
	r := rand.New(rand.NewSource(5))
	many := 0
	for range 400 {
		x, limit, room := rule(some(r, 0, 3), some(r, 0, 3)), someMoist(r, 0, 300), someMoist(r, 0, 300)
		start := narrower(r, narrower(r, limit))
		hours, e := damp.Hours(x, start, room, limit)
		if e != api.OK {
			t.Fatal(x, start, room, limit, hours, e)
		}
		for n := range min(hours+2, 501) {
			after, e := damp.After(x, start, list(stay(room.Low, room.High, n)))
			if e != api.OK || within(after[0], limit) != (n <= hours) {
				t.Fatal(x, start, room, limit, hours, n, after, e)
			}
		}
		if hours > 20 && hours < 500 {
			many++
		}
	}
	if many < 20 {
		t.Error(many)
	}
}

// P11.4: the chapter's example, and the edges.
func TestKeepExamples(t *testing.T) {
	for name, c := range map[string]struct {
		table []api.DampStep
		moist api.Span
		keep  api.Span
	}{
		"the chapter's":     {chapterTable(), to(70, 80), to(700, 1000)},
		"below the second":  {chapterTable(), to(0, 79), to(1000, 1000)},
		"the second":        {chapterTable(), to(80, 80), to(700, 700)},
		"up to the third":   {chapterTable(), to(80, 119), to(700, 700)},
		"the third":         {chapterTable(), to(120, 300), to(400, 400)},
		"all":               {chapterTable(), to(0, 300), to(400, 1000)},
		"a step of 300":     {list(step(0, 5), step(300, 0)), to(300, 300), to(0, 0)},
		"just below it":     {list(step(0, 5), step(300, 0)), to(299, 299), to(5, 5)},
		"one step":          {list(step(0, 0)), to(0, 300), to(0, 0)},
		"steps that change": {list(step(0, 9), step(1, 9), step(2, 8)), to(0, 1), to(9, 9)},
		"ten steps": {list(step(0, 9), step(1, 8), step(2, 7), step(3, 6), step(4, 5), step(5, 4), step(6, 3), step(7, 2), step(8, 1), step(9, 0)),
			to(3, 8), to(1, 6)},
	} {
		if keep, e := damp.Keep(c.table, c.moist); keep != c.keep || e != api.OK {
			t.Error(name, keep, e)
		}
	}
}

// P11.4: against all moistures of the span.
func TestKeep(t *testing.T) {
	r := rand.New(rand.NewSource(6))
	for range 3000 {
		table := list(step(0, pick(r, 1000, some(r, 0, 1000))))
		high := pick(r, 12, 40, 300)
		for range some(r, 0, 9) {
			last := table[len(table)-1]
			if last.Moist == high {
				break
			}
			table = append(table, step(pick(r, last.Moist+1, some(r, last.Moist+1, high)), pick(r, last.Keep, some(r, 0, last.Keep))))
		}
		moist := someMoist(r, 0, pick(r, high, 300))
		want := to(1000, 0)
		for m := moist.Low; m <= moist.High; m++ {
			counts := 0
			for number, s := range table {
				if s.Moist <= m {
					counts = number
				}
			}
			want = to(min(want.Low, table[counts].Keep), max(want.High, table[counts].Keep))
		}
		if keep, e := damp.Keep(table, moist); keep != want || e != api.OK {
			t.Fatal(table, moist, keep, want, e)
		}
	}
}
