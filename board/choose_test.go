package board_test

import (
	"math/big"
	"math/rand"
	"slices"
	"testing"

	"testliner/api"
	"testliner/board"
)

// P1.6: each part of a wish decides, and both ends of each count.
func TestMeetsEdges(t *testing.T) {
	s, b := chapterStore(), made([]int{0, 1, 0}, 0)
	exact := api.BoardWish{Caliper: span(4100, 4240), Strong: 900, Weight: 580}
	for i, c := range []struct {
		change func(w *api.BoardWish)
		meets  bool
	}{
		{func(w *api.BoardWish) {}, true},
		{func(w *api.BoardWish) { w.Caliper.Low++ }, false},
		{func(w *api.BoardWish) { w.Caliper.High-- }, false},
		{func(w *api.BoardWish) { w.Strong++ }, false},
		{func(w *api.BoardWish) { w.Weight-- }, false},
		{func(w *api.BoardWish) { w.Caliper = span(0, 4000) }, false},
		{func(w *api.BoardWish) { w.Caliper = span(4300, 9999) }, false},
		{func(w *api.BoardWish) { w.Caliper, w.Strong, w.Weight = span(0, 1000000), 0, 1000000 }, true},
	} {
		w := exact
		c.change(&w)
		if meets, e := board.Meets(s, b, w); meets != c.meets || e != api.OK {
			t.Error(i, meets, e)
		}
	}
	// 400 + 120 * 9/7 = 554 2/7 is above 554, but strong 600 + 200 * 9/7 = 857 1/7 is 857.
	s.Flutes[0] = api.BoardFlute{Pitch: 7000, Draw: 9000, High: span(3000, 3000)}
	for weight, want := range map[int]bool{554: false, 555: true} {
		if meets, _ := board.Meets(s, b, api.BoardWish{Caliper: span(0, 9999), Strong: 857, Weight: weight}); meets != want {
			t.Error(weight, meets)
		}
	}
}

// P1.6, P1.11: a board that meets a wish does so in each truth, and no other board meets it.
func TestMeets(t *testing.T) {
	met := map[bool]int{}
	stores(t, func(s api.BoardStore, b api.BoardMake, r *rand.Rand) {
		w := someWish(r)
		meets, e := board.Meets(s, b, w)
		if meets != fulfils(s, b, w) || e != api.OK {
			t.Error(s, b, w, meets, e)
		}
		met[meets]++
		any := func(s api.Span) int { return s.Low + r.Intn(s.High-s.Low+1) }
		if c := thick(s, b, any); meets && (c < w.Caliper.Low || c > w.Caliper.High) {
			t.Error(s, b, w, "truth", c)
		}
	})
	if met[true] < 20 || met[false] < 20 {
		t.Error("too few boards meet their wishes, or do not:", met)
	}
}

// best returns the best board of all, by trying each of them: the smallest of the best ones.
func best(s api.BoardStore, w api.BoardWish, by api.BoardBy) (found api.BoardMake, value *big.Rat) {
	for _, b := range allBoards(s) {
		if !fulfils(s, b, w) {
			continue
		}
		v := dry(s, b)
		if by == api.BoardByCost {
			v = big.NewRat(int64(costs(s, b)), 1)
		}
		if value == nil || v.Cmp(value) < 0 {
			found, value = b, v
		}
	}
	return found, value
}

// P1.7: the chapter's example, and a store where the lightest board is not the one that costs least.
func TestBestExamples(t *testing.T) {
	w := api.BoardWish{Caliper: span(2800, 4000), Strong: 500, Weight: 1000}
	light := chapterStore()
	light.Papers = append(light.Papers, api.BoardPaper{Kind: api.BoardLiner, Weight: 140, Thick: span(200, 210), Moist: span(60, 80), Price: 900000, Strong: 200})
	for i, c := range []struct {
		s    api.BoardStore
		by   api.BoardBy
		want api.BoardMake
	}{
		{chapterStore(), api.BoardByWeight, made([]int{2, 1, 2}, 1)},
		{chapterStore(), api.BoardByCost, made([]int{2, 1, 2}, 1)},
		{light, api.BoardByWeight, made([]int{3, 1, 3}, 1)},
		{light, api.BoardByCost, made([]int{2, 1, 2}, 1)},
	} {
		if b, e := board.Best(c.s, w, c.by); !same(b, c.want) || e != api.OK {
			t.Error(i, b, e)
		}
	}
	w.Weight = 459
	if b, e := board.Best(chapterStore(), w, api.BoardByWeight); len(b.Papers)+len(b.Flutes) > 0 || e != api.ErrNone {
		t.Error(b, e)
	}
}

// P1.7: of several boards that are equally good the smallest one: fewer flutes, then papers, then flutes.
func TestBestOfEqual(t *testing.T) {
	liner := api.BoardPaper{Kind: api.BoardLiner, Weight: 10, Thick: span(5, 5)}
	medium := api.BoardPaper{Kind: api.BoardMedium, Weight: 10, Thick: span(5, 5)}
	flute := api.BoardFlute{Pitch: 2000, Draw: 3000, High: span(50, 50)}
	s := api.BoardStore{Papers: []api.BoardPaper{medium, liner, medium, liner}, Flutes: []api.BoardFlute{flute, flute}}
	wide := api.BoardWish{Caliper: span(0, 1000), Weight: 1000}
	double := api.BoardWish{Caliper: span(100, 1000), Weight: 1000}
	for _, by := range []api.BoardBy{api.BoardByWeight, api.BoardByCost} {
		one, e := board.Best(s, wide, by)
		two, f := board.Best(s, double, by)
		if !same(one, made([]int{1, 0, 1}, 0)) || !same(two, made([]int{1, 0, 1, 0, 1}, 0, 0)) || e != api.OK || f != api.OK {
			t.Error(by, one, e, two, f)
		}
	}
	// Boards of no price cost alike, however heavy they are: the smallest one has the heavy liner.
	s.Papers[1].Weight = 400
	if b, e := board.Best(s, wide, api.BoardByCost); !same(b, made([]int{1, 0, 1}, 0)) || e != api.OK {
		t.Error(b, e)
	}
	if b, e := board.Best(s, wide, api.BoardByWeight); !same(b, made([]int{3, 0, 3}, 0)) || e != api.OK {
		t.Error(b, e)
	}
}

// P1.7: costs are compared as they are returned, rounded up: 38.002 and 38.001 farthings are both 39.
func TestBestByRoundedCost(t *testing.T) {
	s := chapterStore()
	s.Papers = s.Papers[:2]
	s.Papers[0].Weight, s.Papers[0].Price = 19, 1000
	s.Papers[1].Weight, s.Papers[1].Price = 1, 1
	s.Flutes = []api.BoardFlute{{Pitch: 1000, Draw: 2000, High: span(9, 9)}, {Pitch: 1000, Draw: 1000, High: span(9, 9)}}
	w := api.BoardWish{Caliper: span(0, 1000), Weight: 1000}
	b, e := board.Best(s, w, api.BoardByCost)
	if !same(b, made([]int{0, 1, 0}, 0)) || e != api.OK {
		t.Error(b, e)
	}
	if b, e = board.Best(s, w, api.BoardByWeight); !same(b, made([]int{0, 1, 0}, 1)) || e != api.OK {
		t.Error(b, e)
	}
}

// P1.7, R5: heavy double boards, of which the weights times the other's denominator do not fit in 64 bits: just the flutes 0 and 3, or 1 and 2, are as high as the wish.
func TestBestOfHeavy(t *testing.T) {
	r := rand.New(rand.NewSource(5))
	w := api.BoardWish{Caliper: span(8000, 8000), Weight: api.MaxBoardSample}
	for range 200 {
		s := greatestStore()
		s.Papers = s.Papers[3:6]
		for i := range s.Papers {
			s.Papers[i].Weight -= r.Intn(300)
		}
		for i, pitch := range []int{9973, 9967, 9949, 9941} {
			s.Flutes[i] = api.BoardFlute{Pitch: pitch, Draw: 2*pitch - 1 - r.Intn(5000), High: span(1000*i+1000, 1000*i+1000)}
		}
		want, _ := best(s, w, api.BoardByWeight)
		if b, e := board.Best(s, w, api.BoardByWeight); !same(b, want) || e != api.OK || len(b.Flutes) != 2 {
			t.Error(s, b, e, want)
		}
	}
}

// P1.7, P1.12: the board of Best meets the wish, and no board that does is better; one more paper or flute, or an easier wish, makes it no worse.
func TestBest(t *testing.T) {
	r := rand.New(rand.NewSource(3))
	found := map[bool]int{}
	for range 400 {
		s, w := someStore(r), someWish(r)
		for _, by := range []api.BoardBy{api.BoardByWeight, api.BoardByCost} {
			want, value := best(s, w, by)
			b, e := board.Best(s, w, by)
			found[value != nil]++
			if value == nil {
				if e != api.ErrNone || len(b.Papers)+len(b.Flutes) > 0 {
					t.Error(s, w, by, b, e)
				}
				continue
			}
			if e != api.OK || !same(b, want) {
				t.Error(s, w, by, b, e, want)
			}
			if meets, _ := board.Meets(s, b, w); !meets {
				t.Error(s, w, by, b, "does not meet the wish")
			}
			more, easier := moreStore(r, s), w
			easier.Caliper.Low, easier.Caliper.High = max(0, w.Caliper.Low-r.Intn(9)), w.Caliper.High+r.Intn(9)
			easier.Strong, easier.Weight = max(0, w.Strong-r.Intn(5)), w.Weight+r.Intn(9)
			for _, x := range []struct {
				s api.BoardStore
				w api.BoardWish
			}{{more, w}, {s, easier}} {
				c, e := board.Best(x.s, x.w, by)
				if e != api.OK || valueOf(x.s, c, by).Cmp(value) > 0 {
					t.Error(s, w, by, b, "became worse", c, e)
				}
			}
		}
	}
	if found[true] < 50 || found[false] < 50 {
		t.Error("too few wishes are met, or are not:", found)
	}
}

func valueOf(s api.BoardStore, b api.BoardMake, by api.BoardBy) *big.Rat {
	if by == api.BoardByWeight {
		w, _ := board.Weigh(s, b)
		return rat(w)
	}
	c, _ := board.Cost(s, b)
	return big.NewRat(int64(c), 1)
}

// moreStore returns a store with a paper or a flute more, after the others.
func moreStore(r *rand.Rand, s api.BoardStore) api.BoardStore {
	x := someStore(r)
	if r.Intn(2) == 0 {
		s.Papers = append(slices.Clone(s.Papers), x.Papers[0])
	} else {
		s.Flutes = append(slices.Clone(s.Flutes), x.Flutes[0])
	}
	return s
}

// P1.8: the chapter's example, and spans that have just one integer in common.
func TestCanExamples(t *testing.T) {
	thin, flat := made([]int{0, 1, 0}, 1), made([]int{0, 1, 0}, 0)
	for i, c := range []struct {
		weight, caliper api.Span
		want            []api.BoardMake
	}{
		{span(560, 600), span(2800, 3000), []api.BoardMake{thin}},
		{span(606, 606), span(3040, 3040), []api.BoardMake{thin}},
		{span(595, 595), span(2900, 2900), []api.BoardMake{thin}},
		{span(607, 615), span(0, 9999), nil},
		{span(606, 616), span(3040, 4100), []api.BoardMake{flat, thin}},
		{span(606, 616), span(3041, 4099), nil},
		{span(540, 560), span(2800, 3000), []api.BoardMake{made([]int{0, 1, 2}, 1), made([]int{2, 1, 0}, 1)}},
		{span(0, 0), span(0, 0), nil},
	} {
		l, e := board.Can(chapterStore(), api.BoardSample{Weight: c.weight, Caliper: c.caliper})
		if !slices.EqualFunc(l, c.want, same) || e != api.OK {
			t.Error(i, l, e)
		}
	}
}

// P1.8: 100 boards are not too many, 101 are. All 100 single boards are at most 30 thick, and just one double board is 50, the others are more.
func TestCanLimit(t *testing.T) {
	liner := api.BoardPaper{Kind: api.BoardLiner, Weight: 100, Thick: span(5, 5)}
	medium := api.BoardPaper{Kind: api.BoardMedium, Weight: 100, Thick: span(5, 5)}
	flute := api.BoardFlute{Pitch: 1000, Draw: 1000, High: span(20, 20)}
	s := api.BoardStore{Papers: []api.BoardPaper{liner, liner, medium, liner, liner, liner}, Flutes: []api.BoardFlute{flute, flute, flute, flute}}
	s.Papers[5].Thick, s.Flutes[3].High = span(4, 4), span(19, 19)
	x := api.BoardSample{Weight: span(0, 1000), Caliper: span(0, 49)}
	if l, e := board.Can(s, x); len(l) != 100 || e != api.OK || !slices.EqualFunc(l, allBoards(s)[:100], same) {
		t.Error(len(l), e)
	}
	x.Caliper.High = 50
	if l, e := board.Can(s, x); len(l) != 0 || e != api.ErrFull {
		t.Error(len(l), e)
	}
}

// P1.8, P1.13: whatever board a sample is of is found, in ascending order; a narrower sample finds no more.
func TestCan(t *testing.T) {
	r := rand.New(rand.NewSource(4))
	full := 0
	for range 600 {
		s := someStore(r)
		all := allBoards(s)
		if len(all) == 0 {
			continue
		}
		truth := all[r.Intn(len(all))]
		any := func(s api.Span) int { return s.Low + r.Intn(s.High-s.Low+1) }
		around := func(n, far int) api.Span { return span(max(0, n-r.Intn(far)), n+r.Intn(far)) }
		x := api.BoardSample{Weight: around(moist(s, truth, any), 9), Caliper: around(thick(s, truth, any), 30)}
		var want []api.BoardMake
		for _, b := range all {
			if moist(s, b, low) <= x.Weight.High && moist(s, b, high) >= x.Weight.Low && thick(s, b, low) <= x.Caliper.High && thick(s, b, high) >= x.Caliper.Low {
				want = append(want, b)
			}
		}
		l, e := board.Can(s, x)
		if len(want) > 100 {
			full++
			if e != api.ErrFull || len(l) > 0 {
				t.Error(len(l), e)
			}
			continue
		}
		if e != api.OK || !slices.EqualFunc(l, want, same) || !slices.ContainsFunc(l, func(b api.BoardMake) bool { return same(b, truth) }) {
			t.Error(s, x, l, e, want)
		}
		for i := 1; i < len(l); i++ {
			if compare(l[i-1], l[i]) >= 0 {
				t.Error("not ascending:", l)
			}
		}
		narrow := x
		narrow.Weight.Low, narrow.Caliper.High = any(x.Weight), any(x.Caliper)
		fewer, e := board.Can(s, narrow)
		for _, b := range fewer {
			if !slices.ContainsFunc(l, func(c api.BoardMake) bool { return same(b, c) }) {
				t.Error(s, x, narrow, b, "is new")
			}
		}
		if e != api.OK {
			t.Error(e)
		}
	}
	if full == 0 {
		t.Error("no sample can be more than 100 boards")
	}
}
