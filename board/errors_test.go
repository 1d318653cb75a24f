package board_test

import (
	"math"
	"math/rand"
	"reflect"
	"slices"
	"testing"

	"testliner/api"
	"testliner/board"
)

// P1.1: what is wrong with a store, and the limits that can just be reached.
func TestCheckStore(t *testing.T) {
	paper := func(change func(p *api.BoardPaper)) api.BoardStore {
		s := chapterStore()
		change(&s.Papers[1])
		return s
	}
	flute := func(pitch, draw int, high api.Span) api.BoardStore {
		s := chapterStore()
		s.Flutes[1] = api.BoardFlute{Pitch: pitch, Draw: draw, High: high}
		return s
	}
	many := func(papers, flutes int) api.BoardStore {
		s := chapterStore()
		return api.BoardStore{Papers: slices.Repeat(s.Papers[:1], papers), Flutes: slices.Repeat(s.Flutes[:1], flutes)}
	}
	ok := span(1, 10)
	cases := map[string]struct {
		s api.BoardStore
		e api.Errno
	}{
		"chapter":           {chapterStore(), api.OK},
		"greatest":          {greatestStore(), api.OK},
		"one of each":       {many(1, 1), api.OK},
		"most":              {many(8, 4), api.OK},
		"papers too many":   {many(9, 4), api.ErrLong},
		"flutes too many":   {many(8, 5), api.ErrLong},
		"long before arg":   {many(0, 5), api.ErrLong},
		"long papers, none": {many(9, 0), api.ErrLong},
		"no papers":         {many(0, 1), api.ErrArg},
		"no flutes":         {many(1, 0), api.ErrArg},
		"nothing":           {api.BoardStore{}, api.ErrArg},
		"kind 0":            {paper(func(p *api.BoardPaper) { p.Kind = 0 }), api.ErrArg},
		"kind 3":            {paper(func(p *api.BoardPaper) { p.Kind = 3 }), api.ErrArg},
		"kind liner":        {paper(func(p *api.BoardPaper) { p.Kind = api.BoardLiner }), api.OK},
		"weight 0":          {paper(func(p *api.BoardPaper) { p.Weight = 0 }), api.ErrArg},
		"weight 1":          {paper(func(p *api.BoardPaper) { p.Weight = 1 }), api.OK},
		"weight 1001":       {paper(func(p *api.BoardPaper) { p.Weight = 1001 }), api.ErrArg},
		"thick 0":           {paper(func(p *api.BoardPaper) { p.Thick = span(0, 1) }), api.ErrArg},
		"thick 1":           {paper(func(p *api.BoardPaper) { p.Thick = span(1, 1) }), api.OK},
		"thick 1001":        {paper(func(p *api.BoardPaper) { p.Thick = span(1, 1001) }), api.ErrArg},
		"thick turned":      {paper(func(p *api.BoardPaper) { p.Thick = span(5, 4) }), api.ErrArg},
		"moist 0":           {paper(func(p *api.BoardPaper) { p.Moist = span(0, 0) }), api.OK},
		"moist below":       {paper(func(p *api.BoardPaper) { p.Moist = span(-1, 0) }), api.ErrArg},
		"moist 201":         {paper(func(p *api.BoardPaper) { p.Moist = span(0, 201) }), api.ErrArg},
		"moist turned":      {paper(func(p *api.BoardPaper) { p.Moist = span(7, 6) }), api.ErrArg},
		"price 0":           {paper(func(p *api.BoardPaper) { p.Price = 0 }), api.OK},
		"price below":       {paper(func(p *api.BoardPaper) { p.Price = -1 }), api.ErrArg},
		"price above":       {paper(func(p *api.BoardPaper) { p.Price = 1000001 }), api.ErrArg},
		"strong 0":          {paper(func(p *api.BoardPaper) { p.Strong = 0 }), api.OK},
		"strong below":      {paper(func(p *api.BoardPaper) { p.Strong = -1 }), api.ErrArg},
		"strong above":      {paper(func(p *api.BoardPaper) { p.Strong = 10001 }), api.ErrArg},
		"pitch 999":         {flute(999, 1500, ok), api.ErrArg},
		"pitch 1000":        {flute(1000, 1000, ok), api.OK},
		"pitch 10001":       {flute(10001, 15000, ok), api.ErrArg},
		"draw below pitch":  {flute(5000, 4999, ok), api.ErrArg},
		"draw twice":        {flute(5000, 10000, ok), api.OK},
		"draw above twice":  {flute(5000, 10001, ok), api.ErrArg},
		"draw twice wraps":  {flute(math.MinInt, 0, ok), api.ErrArg},
		"high 0":            {flute(5000, 6000, span(0, 5)), api.ErrArg},
		"high 1 to 10000":   {flute(5000, 6000, span(1, 10000)), api.OK},
		"high 10001":        {flute(5000, 6000, span(5, 10001)), api.ErrArg},
		"high turned":       {flute(5000, 6000, span(5, 4)), api.ErrArg},
	}
	for name, c := range cases {
		if e := board.Check(c.s); e != c.e {
			t.Errorf("%s: %d, want %d", name, e, c.e)
		}
		if c.e != api.OK {
			// All else is wrong as well: the store's error comes first.
			for i, e := range errorsOf(c.s, made(nil), -1, api.BoardWish{Strong: -1}, 0, api.BoardSample{Weight: span(1, 0)}) {
				if e != c.e {
					t.Errorf("%s: function %d: %d, want %d", name, i, e, c.e)
				}
			}
		}
	}
}

// errorsOf returns the errors of all functions with a store; of those with a board the first six, and Use, Meets.
func errorsOf(s api.BoardStore, b api.BoardMake, area int, w api.BoardWish, by api.BoardBy, x api.BoardSample) []api.Errno {
	e := make([]api.Errno, 9)
	e[0] = board.Made(s, b)
	_, e[1] = board.Weigh(s, b)
	_, _, e[2] = board.Measure(s, b)
	_, e[3] = board.Strength(s, b)
	_, e[4] = board.Cost(s, b)
	_, e[5] = board.Use(s, b, area)
	_, e[6] = board.Meets(s, b, w)
	_, e[7] = board.Best(s, w, by)
	_, e[8] = board.Can(s, x)
	return e
}

// P1.1: what is wrong with a board, by the first error that is named, in all functions that have one.
func TestMadeBoard(t *testing.T) {
	n := func(l ...int) []int { return l }
	for i, c := range []struct {
		b api.BoardMake
		e api.Errno
	}{
		{made(n(0, 1, 0), 0), api.OK},
		{made(n(2, 1, 0), 1), api.OK},
		{made(n(0, 1, 2, 1, 0), 1, 1), api.OK},
		{made(nil), api.ErrForm},
		{made(n(0)), api.ErrForm},
		{made(nil, 0), api.ErrForm},
		{made(n(0, 1), 0), api.ErrForm},
		{made(n(0, 1, 0, 1), 0), api.ErrForm},
		{made(n(0, 1, 0), 0, 0), api.ErrForm},
		{made(n(0, 1, 0, 1, 0), 0), api.ErrForm},
		{made(n(0, 1, 0, 1, 0, 1, 0), 0, 0, 0), api.ErrForm},
		{made(n(9, 9), 9), api.ErrForm},
		{made(n(3, 1, 0), 0), api.ErrNone},
		{made(n(0, 3, 0), 0), api.ErrNone},
		{made(n(0, 1, -1), 0), api.ErrNone},
		{made(n(0, 1, 0), 2), api.ErrNone},
		{made(n(0, 1, 0), -1), api.ErrNone},
		{made(n(0, 1, 0, 1, 0), 0, 2), api.ErrNone},
		{made(n(1, 0, 1), 2), api.ErrNone},
		{made(n(1, 0, math.MaxInt), 0), api.ErrNone},
		{made(n(1, 1, 0), 0), api.ErrArg},
		{made(n(0, 0, 0), 0), api.ErrArg},
		{made(n(0, 1, 1), 0), api.ErrArg},
		{made(n(0, 1, 1, 1, 0), 0, 0), api.ErrArg},
		{made(n(0, 1, 0, 2, 0), 0, 0), api.ErrArg},
		{made(n(0, 1, 0, 1, 1), 0, 0), api.ErrArg},
	} {
		wide := api.BoardSample{Weight: span(0, 9), Caliper: span(0, 9)}
		got := errorsOf(chapterStore(), c.b, -1, api.BoardWish{Weight: -1}, 0, wide)
		want := []api.Errno{c.e, c.e, c.e, c.e, c.e, c.e, c.e, api.ErrArg, api.OK}
		if c.e == api.OK {
			want[5], want[6] = api.ErrRange, api.ErrArg
		}
		if !slices.Equal(got, want) {
			t.Errorf("%d: %v: %v, want %v", i, c.b, got, want)
		}
	}
}

// P1.5, P1.6, P1.7, P1.8: what is wrong with an area, a wish, a way to compare, and a sample.
func TestLaterErrors(t *testing.T) {
	s, b := chapterStore(), made([]int{0, 1, 0}, 0)
	for area, want := range map[int]api.Errno{-1: api.ErrRange, 0: api.OK, 1000000: api.OK, 1000001: api.ErrRange, math.MinInt: api.ErrRange, math.MaxInt: api.ErrRange} {
		if _, e := board.Use(s, b, area); e != want {
			t.Errorf("Use %d: %d, want %d", area, e, want)
		}
	}
	const most = api.MaxBoardSample
	all := span(0, most)
	for i, c := range []struct {
		w api.BoardWish
		e api.Errno
	}{
		{api.BoardWish{Caliper: all, Weight: most}, api.OK},
		{api.BoardWish{Caliper: all, Strong: most, Weight: most}, api.ErrNone},
		{api.BoardWish{Caliper: all}, api.ErrNone},
		{api.BoardWish{Caliper: span(-1, 5)}, api.ErrArg},
		{api.BoardWish{Caliper: span(5, 4), Weight: most}, api.ErrArg},
		{api.BoardWish{Caliper: span(0, most+1), Weight: most}, api.ErrArg},
		{api.BoardWish{Caliper: all, Strong: -1, Weight: most}, api.ErrArg},
		{api.BoardWish{Caliper: all, Strong: most + 1, Weight: most}, api.ErrArg},
		{api.BoardWish{Caliper: all, Weight: -1}, api.ErrArg},
		{api.BoardWish{Caliper: all, Weight: most + 1}, api.ErrArg},
	} {
		met, e := board.Meets(s, b, c.w)
		if want := c.e == api.OK; met != want || (e == api.ErrArg) != (c.e == api.ErrArg) {
			t.Errorf("%d: Meets: %v %d", i, met, e)
		}
		for _, by := range []api.BoardBy{api.BoardByWeight, api.BoardByCost} {
			if got, e := board.Best(s, c.w, by); e != c.e || e != api.OK && len(got.Papers)+len(got.Flutes) > 0 {
				t.Errorf("%d: Best: %v %d, want %d", i, got, e, c.e)
			}
		}
		for _, by := range []api.BoardBy{-1, 0, 3} {
			if got, e := board.Best(s, c.w, by); e != api.ErrArg || len(got.Papers)+len(got.Flutes) > 0 {
				t.Errorf("%d: Best by %d: %v %d", i, by, got, e)
			}
		}
	}
	for i, x := range []api.BoardSample{
		{Weight: span(-1, 5), Caliper: all}, {Weight: span(2, 1), Caliper: all}, {Weight: span(0, most+1), Caliper: all},
		{Weight: all, Caliper: span(-1, 5)}, {Weight: all, Caliper: span(2, 1)}, {Weight: all, Caliper: span(0, most+1)},
	} {
		if l, e := board.Can(s, x); len(l) > 0 || e != api.ErrArg {
			t.Errorf("%d: Can: %v %d", i, l, e)
		}
	}
}

// A store without liners, or without mediums, is valid, and no board can be made of it.
func TestStoreWithoutBoards(t *testing.T) {
	wide := span(0, api.MaxBoardSample)
	for _, l := range [][]int{{0, 2}, {1}} {
		s := chapterStore()
		papers := s.Papers
		s.Papers = nil
		for _, p := range l {
			s.Papers = append(s.Papers, papers[p])
		}
		b, e := board.Best(s, api.BoardWish{Caliper: wide, Weight: api.MaxBoardSample}, api.BoardByCost)
		can, f := board.Can(s, api.BoardSample{Weight: wide, Caliper: wide})
		if board.Check(s) != api.OK || len(b.Papers) > 0 || e != api.ErrNone || len(can) > 0 || f != api.OK {
			t.Error(l, b, e, can, f)
		}
	}
}

// P1: no function panics, and with an error every other result is its zero value.
func TestWildArguments(t *testing.T) {
	r := rand.New(rand.NewSource(1))
	wild := func() int {
		l := []int{math.MinInt, math.MinInt + 1, -1, 0, 1, 2, 3, 1000, 10000, math.MaxInt - 1, math.MaxInt}
		return l[r.Intn(len(l))]
	}
	wildSpan := func() api.Span { return span(wild(), wild()) }
	list := func() []int {
		l := make([]int, r.Intn(7))
		for i := range l {
			l[i] = wild()
		}
		return l
	}
	for range 20000 {
		s := chapterStore()
		if r.Intn(2) == 0 {
			s.Papers[r.Intn(3)] = api.BoardPaper{Kind: api.BoardKind(wild()), Weight: wild(), Thick: wildSpan(), Moist: wildSpan(), Price: wild(), Strong: wild()}
			s.Flutes[r.Intn(2)] = api.BoardFlute{Pitch: wild(), Draw: wild(), High: wildSpan()}
		}
		b := made(list(), list()...)
		w := api.BoardWish{Caliper: wildSpan(), Strong: wild(), Weight: wild()}
		zeroWithError(t, board.Check(s))
		zeroWithError(t, board.Made(s, b))
		weight, e := board.Weigh(s, b)
		zeroWithError(t, e, weight)
		moist, caliper, e := board.Measure(s, b)
		zeroWithError(t, e, moist, caliper)
		strong, e := board.Strength(s, b)
		zeroWithError(t, e, strong)
		cost, e := board.Cost(s, b)
		zeroWithError(t, e, cost)
		use, e := board.Use(s, b, wild())
		zeroWithError(t, e, len(use))
		meets, e := board.Meets(s, b, w)
		zeroWithError(t, e, meets)
		best, e := board.Best(s, w, api.BoardBy(wild()))
		zeroWithError(t, e, len(best.Papers), len(best.Flutes))
		can, e := board.Can(s, api.BoardSample{Weight: wildSpan(), Caliper: wildSpan()})
		zeroWithError(t, e, len(can))
		code, e := board.Code(b)
		zeroWithError(t, e, code)
		read, e := board.Read(code)
		zeroWithError(t, e, len(read.Papers), len(read.Flutes))
	}
}

func zeroWithError(t *testing.T, e api.Errno, results ...any) {
	t.Helper()
	for _, x := range results {
		if e != api.OK && !reflect.ValueOf(x).IsZero() {
			t.Fatal(e, x)
		}
	}
}

// P2, R3, R4: equal arguments have equal results, none of them is changed, nor what lies behind its end, and results are new memory.
func TestArgumentsAndMemory(t *testing.T) {
	s := chapterStore()
	s.Papers = append(s.Papers, api.BoardPaper{Weight: 77})[:3]
	s.Flutes = append(s.Flutes, api.BoardFlute{Pitch: 77})[:2]
	b := made(append([]int{0, 1, 2, 1, 2}, 77)[:5], append([]int{0, 1}, 77)[:2]...)
	w := api.BoardWish{Caliper: span(2800, 7000), Strong: 500, Weight: 1000}
	wide := api.BoardSample{Weight: span(0, 10000), Caliper: span(0, 10000)}
	for range 3 {
		use, e := board.Use(s, b, 10)
		if e != api.OK || !slices.Equal(use, []api.Ratio{{Num: 2000, Den: 1}, {Num: 3400, Den: 1}, {Num: 3000, Den: 1}}) {
			t.Fatal(use, e)
		}
		use[0].Num = -1
		best, e := board.Best(s, w, api.BoardByWeight)
		if e != api.OK || !same(best, made([]int{2, 1, 2}, 1)) {
			t.Fatal(best, e)
		}
		best.Papers[0], best.Flutes[0] = -1, -1
		can, e := board.Can(s, wide)
		if e != api.OK || !slices.EqualFunc(can, allBoards(s), same) {
			t.Fatal(can, e)
		}
		spoilEach(t, can)
		read, e := board.Read("0/1a/2")
		if e != api.OK || !same(read, made([]int{0, 1, 2}, 0)) {
			t.Fatal(read, e)
		}
		read.Papers[0] = -1
		board.Made(s, b)
		board.Weigh(s, b)
		board.Measure(s, b)
		board.Strength(s, b)
		board.Cost(s, b)
		board.Meets(s, b, w)
		board.Code(b)
	}
	x := chapterStore()
	if !slices.Equal(s.Papers, x.Papers) || !slices.Equal(s.Flutes, x.Flutes) || s.Papers[:4][3].Weight != 77 || s.Flutes[:3][2].Pitch != 77 {
		t.Error("the store was changed:", s)
	}
	if !same(b, made([]int{0, 1, 2, 1, 2}, 0, 1)) || b.Papers[:6][5] != 77 || b.Flutes[:3][2] != 77 {
		t.Error("the board was changed:", b)
	}
}

// spoilEach changes one board after another, and sees that no other one changes, not even by what is appended.
func spoilEach(t *testing.T, l []api.BoardMake) {
	t.Helper()
	for i := range l {
		_ = append(l[i].Papers, -9, -9, -9)
		_ = append(l[i].Flutes, -9, -9, -9)
		for _, x := range [][]int{l[i].Papers, l[i].Flutes} {
			for j := range x {
				if x[j] < 0 {
					t.Fatal("boards share memory:", i, l[i])
				}
				x[j] = -1
			}
		}
	}
}
