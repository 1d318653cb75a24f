package board_test

import (
	"math/big"
	"math/rand"
	"slices"
	"testing"

	"testliner/api"
	"testliner/board"
)

// stores calls a test with the stores of the tests, and some of their boards.
func stores(t *testing.T, test func(s api.BoardStore, b api.BoardMake, r *rand.Rand)) {
	t.Helper()
	r := rand.New(rand.NewSource(2))
	try := func(s api.BoardStore, every int) {
		for i, b := range allBoards(s) {
			if i%every == 0 {
				test(s, b, r)
			}
		}
	}
	try(chapterStore(), 1)
	try(greatestStore(), 61)
	for range 300 {
		try(someStore(r), 17)
	}
}

// P1.2 to P1.5: the chapter's examples.
func TestExamples(t *testing.T) {
	s := chapterStore()
	one := func(n int) api.Ratio { return api.Ratio{Num: n, Den: 1} }
	for i, c := range []struct {
		b               api.BoardMake
		dry             int
		weight, caliper api.Span
		strong, cost    int
	}{
		{made([]int{0, 1, 0}, 0), 580, span(616, 628), span(4100, 4240), 900, 214000},
		{made([]int{0, 1, 0}, 1), 560, span(595, 606), span(2900, 3040), 866, 208000},
		{made([]int{0, 1, 2, 1, 2}, 0, 1), 840, span(893, 910), span(6650, 6890), 1266, 272000},
		{made([]int{2, 1, 2}, 1), 460, span(489, 498), span(2800, 2920), 666, 138000},
	} {
		dry, e1 := board.Weigh(s, c.b)
		weight, caliper, e2 := board.Measure(s, c.b)
		strong, e3 := board.Strength(s, c.b)
		cost, e4 := board.Cost(s, c.b)
		if dry != one(c.dry) || weight != c.weight || caliper != c.caliper || strong != c.strong || cost != c.cost {
			t.Error(i, dry, weight, caliper, strong, cost)
		}
		if e1 != api.OK || e2 != api.OK || e3 != api.OK || e4 != api.OK {
			t.Error(i, e1, e2, e3, e4)
		}
	}
	use, e := board.Use(s, made([]int{0, 1, 0}, 0), 3)
	if !slices.Equal(use, []api.Ratio{one(1200), one(540), one(0)}) || e != api.OK {
		t.Error(use, e)
	}
}

// P1.2: the dry weight is exact and in lowest terms.
func TestWeigh(t *testing.T) {
	s := api.BoardStore{
		Papers: []api.BoardPaper{
			{Kind: api.BoardLiner, Weight: 3, Thick: span(1, 1)},
			{Kind: api.BoardMedium, Weight: 5, Thick: span(1, 1)},
		},
		Flutes: []api.BoardFlute{{Pitch: 1001, Draw: 1430, High: span(1, 1)}, {Pitch: 1006, Draw: 1009, High: span(1, 1)}},
	}
	// 6 + 5 * 10/7, and 9 + 5 * 10/7 + 5 * 1009/1006.
	one, e := board.Weigh(s, made([]int{0, 1, 0}, 0))
	two, f := board.Weigh(s, made([]int{0, 1, 0, 1, 0}, 0, 1))
	if one != (api.Ratio{Num: 92, Den: 7}) || two != (api.Ratio{Num: 148993, Den: 7042}) || e != api.OK || f != api.OK {
		t.Error(one, e, two, f)
	}
	stores(t, func(s api.BoardStore, b api.BoardMake, _ *rand.Rand) {
		if w, e := board.Weigh(s, b); e != api.OK || !equal(w, dry(s, b)) {
			t.Error(s, b, w, e)
		}
	})
}

// P1.3, P1.11: each truth lies in Measure, and the ends are reached.
func TestMeasure(t *testing.T) {
	stores(t, func(s api.BoardStore, b api.BoardMake, r *rand.Rand) {
		weight, caliper, e := board.Measure(s, b)
		if e != api.OK || weight != span(moist(s, b, low), moist(s, b, high)) || caliper != span(thick(s, b, low), thick(s, b, high)) {
			t.Error(s, b, weight, caliper, e)
		}
		any := func(s api.Span) int { return s.Low + r.Intn(s.High-s.Low+1) }
		for range 5 {
			w, c := moist(s, b, any), thick(s, b, any)
			if w < weight.Low || w > weight.High || c < caliper.Low || c > caliper.High {
				t.Error(s, b, "truth", w, c, weight, caliper)
			}
		}
	})
}

// P1.3: a moist weight is rounded down once, at the end: here no part of it is whole, but all together are.
func TestMoistRoundedOnce(t *testing.T) {
	s := api.BoardStore{
		Papers: []api.BoardPaper{
			{Kind: api.BoardLiner, Weight: 1, Thick: span(1, 1), Moist: span(100, 200), Strong: 1},
			{Kind: api.BoardMedium, Weight: 1, Thick: span(1, 1), Moist: span(0, 200), Strong: 1},
		},
		Flutes: []api.BoardFlute{{Pitch: 1000, Draw: 1800, High: span(2, 3)}},
	}
	weight, caliper, e := board.Measure(s, made([]int{0, 1, 0}, 0))
	if weight != span(4, 4) || caliper != span(4, 5) || e != api.OK {
		t.Error(weight, caliper, e)
	}
}

// P1.4: strength is rounded down, cost up, each once and exactly.
func TestStrengthAndCost(t *testing.T) {
	stores(t, func(s api.BoardStore, b api.BoardMake, _ *rand.Rand) {
		st, e := board.Strength(s, b)
		c, f := board.Cost(s, b)
		if e != api.OK || f != api.OK || st != strong(s, b) || c != costs(s, b) {
			t.Error(s, b, st, c)
		}
	})
	third := chapterStore()
	third.Flutes[0] = api.BoardFlute{Pitch: 7000, Draw: 9000, High: span(1, 1)}
	st, _ := board.Strength(third, made([]int{0, 1, 0}, 0))
	c, _ := board.Cost(third, made([]int{0, 1, 0}, 0))
	// 600 + 200 * 9/7, and 160000 + 36000 * 9/7.
	if st != 857 || c != 206286 {
		t.Error(st, c)
	}
	// 999 / 1000 and 1001 / 1000000: the least part of a farthing counts.
	little := third
	little.Papers = slices.Clone(third.Papers)
	little.Flutes = []api.BoardFlute{{Pitch: 1000, Draw: 1001, High: span(1, 1)}}
	little.Papers[0].Weight, little.Papers[0].Price = 999, 1
	little.Papers[1].Weight, little.Papers[1].Price = 1, 1
	little.Papers[2].Price = 0
	if c, _ = board.Cost(little, made([]int{0, 1, 2}, 0)); c != 2 {
		t.Error("little:", c)
	}
	free := chapterStore()
	for i := range free.Papers {
		free.Papers[i].Price, free.Papers[i].Strong = 0, 0
	}
	st, _ = board.Strength(free, made([]int{0, 1, 0}, 0))
	c, _ = board.Cost(free, made([]int{0, 1, 0}, 0))
	if st != 0 || c != 0 {
		t.Error("free:", st, c)
	}
}

// P1.4, R5: with the greatest numbers nothing overflows.
func TestGreatest(t *testing.T) {
	s, b := greatestStore(), made([]int{0, 5, 1, 6, 0}, 0, 1)
	dry, _ := board.Weigh(s, b)
	weight, caliper, _ := board.Measure(s, b)
	st, _ := board.Strength(s, b)
	c, _ := board.Cost(s, b)
	use, _ := board.Use(s, b, api.MaxBoardArea)
	if dry != (api.Ratio{Num: 7000, Den: 1}) || weight != span(8400, 8400) || caliper != span(23000, 23000) || st != 70000 || c != 7000000 {
		t.Error(dry, weight, caliper, st, c)
	}
	if want := (api.Ratio{Num: 2000000000, Den: 1}); len(use) != 8 || use[0] != want || use[5] != want || use[7] != (api.Ratio{Num: 0, Den: 1}) {
		t.Error(use)
	}
}

// P1.5, P1.10: what is used of all papers is the dry weight times the area, and areas add up.
func TestUse(t *testing.T) {
	stores(t, func(s api.BoardStore, b api.BoardMake, r *rand.Rand) {
		x, y := r.Intn(500001), r.Intn(500001)
		first, e := board.Use(s, b, x)
		second, f := board.Use(s, b, y)
		both, g := board.Use(s, b, x+y)
		if e != api.OK || f != api.OK || g != api.OK || len(first) != len(s.Papers) || len(second) != len(first) || len(both) != len(first) {
			t.Fatal(s, b, first, second, both)
		}
		all := new(big.Rat)
		for i := range both {
			want := sumOf(s, b, i)
			want.Mul(want, big.NewRat(int64(x+y), 1))
			if !equal(both[i], want) || !equal(both[i], new(big.Rat).Add(rat(first[i]), rat(second[i]))) {
				t.Error(s, b, i, first[i], second[i], both[i])
			}
			all.Add(all, rat(both[i]))
		}
		whole := dry(s, b)
		if all.Cmp(whole.Mul(whole, big.NewRat(int64(x+y), 1))) != 0 {
			t.Error(s, b, all)
		}
	})
	use, e := board.Use(chapterStore(), made([]int{2, 1, 2}, 0), 0)
	if !slices.Equal(use, []api.Ratio{{Den: 1}, {Den: 1}, {Den: 1}}) || e != api.OK {
		t.Error(use, e)
	}
}

// sumOf returns how many grams of one paper are in a square metre of a board.
func sumOf(s api.BoardStore, b api.BoardMake, number int) *big.Rat {
	return sum(s, b, func(place int, p api.BoardPaper) int {
		if b.Papers[place] == number {
			return p.Weight
		}
		return 0
	})
}

// P1.10: a board read from the other side weighs, measures and costs as much, and is as strong.
func TestOtherSide(t *testing.T) {
	stores(t, func(s api.BoardStore, b api.BoardMake, _ *rand.Rand) {
		c := made(slices.Clone(b.Papers), slices.Clone(b.Flutes)...)
		slices.Reverse(c.Papers)
		slices.Reverse(c.Flutes)
		w1, _ := board.Weigh(s, b)
		w2, _ := board.Weigh(s, c)
		m1, t1, _ := board.Measure(s, b)
		m2, t2, _ := board.Measure(s, c)
		c1, _ := board.Cost(s, b)
		c2, _ := board.Cost(s, c)
		s1, _ := board.Strength(s, b)
		s2, e := board.Strength(s, c)
		if w1 != w2 || m1 != m2 || t1 != t2 || c1 != c2 || s1 != s2 || e != api.OK {
			t.Error(s, b)
		}
	})
}
