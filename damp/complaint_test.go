package damp_test

import (
	"math/rand"
	"slices"
	"testing"

	"testliner/api"
	"testliner/damp"
)

// complaint is causes, and what was seen and is missing.
type complaint struct {
	causes        []api.DampCause
	seen, missing int
}

// alike are so many causes that may show each of some sums of signs.
func alike(many int, sums ...int) []api.DampCause {
	var causes []api.DampCause
	for _, sum := range sums {
		causes = append(causes, slices.Repeat(list(cause(0, sum)), many)...)
	}
	return causes
}

// P11.6, P11.7: the chapter's examples, and the edges. A left of 0 is that there is no sign to look for.
func TestExplainExamples(t *testing.T) {
	one := list[[]int](nil)
	for name, c := range map[string]struct {
		c          complaint
		sets       [][]int
		surely     []int
		sign, left int
	}{
		"the chapter's":            {complaint{chapterCauses(7), 5, 8}, list(list(2)), list(2), 0, 0},
		"without the store":        {complaint{chapterCauses(0), 5, 0}, list(list(0, 1), list(1, 3)), list(1), 3, 1},
		"the sign 3 is seen":       {complaint{chapterCauses(0), 13, 0}, list(list(1, 3)), list(1, 3), 0, 0},
		"the sign 3 is missing":    {complaint{chapterCauses(0), 5, 8}, list(list(0, 1)), list(0, 1), 0, 0},
		"the sign 1 is missing":    {complaint{chapterCauses(0), 5, 2}, list(list(0, 1), list(1, 3)), list(1), 3, 1},
		"nothing was seen":         {complaint{chapterCauses(7), 0, 0}, one, nil, 0, 0},
		"all is missing":           {complaint{chapterCauses(7), 0, 4095}, one, nil, 0, 0},
		"no causes":                {complaint{nil, 0, 0}, one, nil, 0, 0},
		"one may show it":          {complaint{alike(1, 1), 1, 0}, list(list(0)), list(0), 0, 0},
		"one must show it":         {complaint{list(cause(1, 0)), 1, 0}, list(list(0)), list(0), 0, 0},
		"must before may":          {complaint{list(cause(3, 3), cause(1, 2)), 1, 2}, list(list(1)), list(1), 0, 0},
		"may show what is missing": {complaint{list(cause(1, 2)), 1, 2}, list(list(0)), list(0), 0, 0},
		"it must at the set's other": {complaint{list(cause(1, 0), cause(2, 4), cause(2, 0)), 3, 4}, list(list(0, 1), list(0, 2)), list(0),
			0, 0},
		"the last sign":        {complaint{list(cause(2048, 0), cause(0, 4095)), 2048, 0}, list(list(0), list(1)), nil, 0, 0},
		"the last sign splits": {complaint{list(cause(1, 0), cause(2049, 0)), 1, 0}, list(list(0), list(1)), nil, 11, 1},
		"one in three":         {complaint{list(cause(1, 0), cause(3, 0), cause(5, 0)), 1, 0}, list(list(0), list(1), list(2)), nil, 1, 2},
		"all may show it":      {complaint{list(cause(1, 2), cause(1, 2)), 1, 0}, list(list(0), list(1)), nil, 0, 0},
		"two of three":         {complaint{list(cause(1, 8), cause(3, 8), cause(7, 0), cause(5, 0)), 1, 0}, list(list(0), list(1), list(2), list(3)), nil, 1, 2},
		"a better one later":   {complaint{list(cause(1, 2), cause(3, 0), cause(5, 2), cause(5, 2)), 1, 0}, list(list(0), list(1), list(2), list(3)), nil, 2, 2},
		"30 sets":              {complaint{slices.Concat(alike(5, 1), alike(1, 2, 2), alike(3, 4)), 7, 0}, product(list(0, 1, 2, 3, 4), list(5, 6), list(7, 8, 9)), nil, 0, 0},
		"ten of ten":           {complaint{alike(1, 1, 2, 4, 8, 16, 32, 64, 128, 256, 512), 1023, 0}, list(list(0, 1, 2, 3, 4, 5, 6, 7, 8, 9)), list(0, 1, 2, 3, 4, 5, 6, 7, 8, 9), 0, 0},
		"all, if need be":      {complaint{alike(1, 1, 2, 4, 8, 1023), 31, 0}, list(list(4)), list(4), 0, 0},
	} {
		if sets, e := damp.Explain(c.c.causes, c.c.seen, c.c.missing); !same(sets, c.sets) || e != api.OK {
			t.Error(name, sets, e)
		}
		if surely, e := damp.Surely(c.c.causes, c.c.seen, c.c.missing); !slices.Equal(surely, c.surely) || e != api.OK {
			t.Error(name, surely, e)
		}
		due := api.OK
		if c.left == 0 {
			due = api.ErrNone
		}
		if sign, left, e := damp.Look(c.c.causes, c.c.seen, c.c.missing); sign != c.sign || left != c.left || e != due {
			t.Error(name, sign, left, e)
		}
	}
}

// product returns all lists of one number of each list.
func product(lists ...[]int) [][]int {
	all := [][]int{nil}
	for _, l := range lists {
		var longer [][]int
		for _, begin := range all {
			for _, n := range l {
				longer = append(longer, append(slices.Clone(begin), n))
			}
		}
		all = longer
	}
	return all
}

// explains reports whether causes explain what was found, sign by sign.
func explains(causes []api.DampCause, seen, missing int) bool {
	for sign := range 12 {
		bit := 1 << sign
		may, must := false, false
		for _, c := range causes {
			must = must || c.Must&bit != 0
			may = may || c.Must&bit != 0 || c.May&bit != 0
		}
		if seen&bit != 0 && !may || missing&bit != 0 && must {
			return false
		}
	}
	return true
}

// trueSets returns all sets of as few causes as can explain a complaint, each set tried.
func trueSets(c complaint) [][]int {
	var sets [][]int
	for many := range len(c.causes) + 1 {
		eachChoice(many, len(c.causes), nil, func(numbers []int) {
			if explains(chosen(c.causes, numbers), c.seen, c.missing) {
				sets = append(sets, numbers)
			}
		})
		if len(sets) > 0 {
			return sets
		}
	}
	return nil
}

// numberLeft returns how many of some sets of causes explain what was found.
func numberLeft(causes []api.DampCause, sets [][]int, seen, missing int) int {
	left := 0
	for _, set := range sets {
		if explains(chosen(causes, set), seen, missing) {
			left++
		}
	}
	return left
}

// trueLook returns the first sign that leaves the fewest sets, and how many.
func trueLook(c complaint, sets [][]int) (sign, left int) {
	left = 9999
	for s := range 12 {
		bit := 1 << s
		if (c.seen|c.missing)&bit != 0 {
			continue
		}
		if most := max(numberLeft(c.causes, sets, c.seen|bit, c.missing), numberLeft(c.causes, sets, c.seen, c.missing|bit)); most < left {
			sign, left = s, most
		}
	}
	return sign, left
}

// someSigns returns a sum of signs below a number of signs, of which each is there once in so many times.
func someSigns(r *rand.Rand, signs, times int) int {
	sum := 0
	for s := range signs {
		if r.Intn(times) == 0 {
			sum |= 1 << s
		}
	}
	return sum
}

// someCauses returns up to ten causes, of which some are alike; narrowCauses returns ten with a sign each, so that many are needed.
func someCauses(r *rand.Rand) []api.DampCause {
	signs := pick(r, 2, 4, 6, 12)
	var causes []api.DampCause
	for range some(r, 0, 10) {
		if len(causes) > 0 && r.Intn(6) == 0 {
			causes = append(causes, pick(r, causes...))
			continue
		}
		causes = append(causes, cause(someSigns(r, signs, pick(r, 2, 4, 8)), someSigns(r, signs, pick(r, 2, 3, 5))))
	}
	return causes
}

func narrowCauses(r *rand.Rand) []api.DampCause {
	signs := some(r, 2, 6)
	var causes []api.DampCause
	for range 10 {
		bit := 1 << r.Intn(signs)
		causes = append(causes, pick(r, cause(bit, 0), cause(0, bit), cause(0, bit), cause(bit, someSigns(r, 12, 8))))
	}
	return causes
}

// shown returns all signs that some causes may show.
func shown(causes []api.DampCause) int {
	all := 0
	for _, c := range causes {
		all |= c.Must | c.May
	}
	return all
}

// someComplaint returns a complaint; mostly causes can explain it.
func someComplaint(r *rand.Rand) complaint {
	c := complaint{causes: someCauses(r)}
	c.seen = someSigns(r, 12, pick(r, 2, 4, 8))
	if r.Intn(3) == 0 {
		c.causes = narrowCauses(r)
		c.seen = pick(r, 4095, c.seen)
	}
	if r.Intn(4) > 0 {
		c.seen &= shown(c.causes)
	}
	c.missing = someSigns(r, 12, pick(r, 2, 5, 20)) &^ c.seen
	return c
}

// P11.6, P11.7, P11.10, P11.11: against all sets of causes, and all signs, sign by sign.
func TestExplain(t *testing.T) {
	r := rand.New(rand.NewSource(10))
	seen := map[api.Errno]int{}
	sizes, looks := map[int]int{}, map[api.Errno]int{}
	for range 5000 {
		c := someComplaint(r)
		want := trueSets(c)
		due := api.OK
		switch {
		case len(want) == 0:
			due = api.ErrState
		case len(want) > 30:
			want, due = nil, api.ErrFull
		}
		seen[due]++
		sets, e := damp.Explain(c.causes, c.seen, c.missing)
		if !same(sets, want) || e != due {
			t.Fatal(c, sets, want, e)
		}
		var sure []int
		for number := range c.causes {
			if len(want) > 0 && !slices.ContainsFunc(want, func(set []int) bool { return !slices.Contains(set, number) }) {
				sure = append(sure, number)
			}
		}
		if surely, e := damp.Surely(c.causes, c.seen, c.missing); !slices.Equal(surely, sure) || e != due {
			t.Fatal(c, surely, sure, e)
		}
		next, least := trueLook(c, want)
		if due == api.OK && least >= len(want) {
			due = api.ErrNone
		}
		if due != api.OK {
			next, least = 0, 0
		}
		if sign, left, e := damp.Look(c.causes, c.seen, c.missing); sign != next || left != least || e != due {
			t.Fatal(c, sign, left, next, least, e)
		}
		if len(want) > 0 {
			sizes[len(want[0])]++
			looks[due]++
		}
	}
	if seen[api.OK] < 1000 || seen[api.ErrState] < 500 || seen[api.ErrFull] < 10 || sizes[1] < 100 || sizes[2] < 100 || sizes[3] < 100 || sizes[4] < 100 || looks[api.OK] < 400 || looks[api.ErrNone] < 500 {
		t.Error(seen, sizes, looks)
	}
}

// P11.10: whichever causes there truly were, if what they must show and nothing that they may not was found where it was looked for, no set of Explain has more causes, and each cause of Surely is in each set.
func TestTrueCauses(t *testing.T) {
	r := rand.New(rand.NewSource(11))
	many := 0
	for range 5000 {
		causes := someCauses(r)
		var truth []int
		must, may := 0, 0
		for number, c := range causes {
			if r.Intn(3) == 0 {
				truth = append(truth, number)
				must, may = must|c.Must, may|c.May
			}
		}
		looked := someSigns(r, 12, pick(r, 1, 2, 3))
		seen := (must | may&someSigns(r, 12, 2)) & looked
		sets, e := damp.Explain(causes, seen, looked&^seen)
		if e == api.ErrFull {
			continue
		}
		if e != api.OK || len(sets[0]) > len(truth) {
			t.Fatal(causes, truth, seen, looked, sets, e)
		}
		surely, e := damp.Surely(causes, seen, looked&^seen)
		for i, set := range sets {
			missing := func(cause int) bool { return !slices.Contains(set, cause) }
			if e != api.OK || len(set) != len(sets[0]) || i > 0 && slices.Compare(sets[i-1], set) >= 0 || slices.ContainsFunc(surely, missing) {
				t.Fatal(causes, seen, looked, sets, surely, e)
			}
		}
		if len(sets) > 1 {
			many++
		}
	}
	if many < 500 {
		t.Error(many)
	}
}

// P11.11: after the look, whatever is found, no more than left of the sets explain the complaint; if a set still does, they are just those of Explain then.
func TestNextLook(t *testing.T) {
	r := rand.New(rand.NewSource(12))
	many := 0
	for range 5000 {
		c := complaint{causes: someCauses(r)}
		c.seen = someSigns(r, 12, 5)
		c.missing = someSigns(r, 12, 6) &^ c.seen
		sign, left, e := damp.Look(c.causes, c.seen, c.missing)
		if e != api.OK {
			continue
		}
		many++
		sets, e := damp.Explain(c.causes, c.seen, c.missing)
		most := 0
		for _, found := range list(complaint{c.causes, c.seen | 1<<sign, c.missing}, complaint{c.causes, c.seen, c.missing | 1<<sign}) {
			then := numberLeft(c.causes, sets, found.seen, found.missing)
			most = max(most, then)
			after, f := damp.Explain(found.causes, found.seen, found.missing)
			if then > 0 && (f != api.OK || len(after) != then) {
				t.Fatal(c, sign, left, sets, after, e, f)
			}
		}
		if most != left || left >= len(sets) || (c.seen|c.missing)>>sign&1 == 1 {
			t.Fatal(c, sign, left, most, sets)
		}
	}
	if many < 300 {
		t.Error(many)
	}
}
