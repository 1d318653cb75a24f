package board_test

import (
	"math/big"
	"math/rand"
	"slices"

	"testliner/api"
)

// span returns a span, made a board.
func span(low, high int) api.Span { return api.Span{Low: low, High: high} }

func made(papers []int, flutes ...int) api.BoardMake {
	return api.BoardMake{Papers: papers, Flutes: flutes}
}

// chapterStore returns the store of the chapter's examples.
func chapterStore() api.BoardStore {
	return api.BoardStore{
		Papers: []api.BoardPaper{
			{Kind: api.BoardLiner, Weight: 200, Thick: span(250, 270), Moist: span(60, 80), Price: 400000, Strong: 300},
			{Kind: api.BoardMedium, Weight: 120, Thick: span(180, 190), Moist: span(70, 90), Price: 300000, Strong: 200},
			{Kind: api.BoardLiner, Weight: 150, Thick: span(200, 210), Moist: span(60, 80), Price: 300000, Strong: 200},
		},
		Flutes: []api.BoardFlute{
			{Pitch: 8000, Draw: 12000, High: span(3600, 3700)},
			{Pitch: 6000, Draw: 8000, High: span(2400, 2500)},
		},
	}
}

// greatestStore returns a store in which every number is as great as it may be, with flutes of which the pitches have no divisor in common.
func greatestStore() api.BoardStore {
	p := api.BoardPaper{Weight: api.MaxBoardWeight, Thick: span(api.MaxBoardThick, api.MaxBoardThick), Moist: span(api.MaxBoardMoist, api.MaxBoardMoist), Price: api.MaxBoardPrice, Strong: api.MaxBoardStrong}
	liner, medium := p, p
	liner.Kind, medium.Kind = api.BoardLiner, api.BoardMedium
	high := span(api.MaxBoardHigh, api.MaxBoardHigh)
	return api.BoardStore{
		Papers: []api.BoardPaper{liner, liner, liner, liner, liner, medium, medium, medium},
		Flutes: []api.BoardFlute{
			{Pitch: 10000, Draw: 20000, High: high}, {Pitch: 9999, Draw: 19998, High: high},
			{Pitch: 9973, Draw: 19945, High: high}, {Pitch: 9967, Draw: 19933, High: high},
		},
	}
}

// someStore returns a store with small numbers, so that boards are often equally good.
func someStore(r *rand.Rand) api.BoardStore {
	some := func(low, high int) api.Span {
		a, b := low+r.Intn(high-low+1), low+r.Intn(high-low+1)
		return span(min(a, b), max(a, b))
	}
	s := api.BoardStore{}
	for range 1 + r.Intn(4) {
		s.Papers = append(s.Papers, api.BoardPaper{
			Kind: api.BoardKind(1 + r.Intn(2)), Weight: 1 + r.Intn(12), Thick: some(1, 40),
			Moist: some(0, 200), Price: r.Intn(5) * 30000, Strong: r.Intn(9),
		})
	}
	for range 1 + r.Intn(3) {
		pitch := 1000 + r.Intn(9)*7
		s.Flutes = append(s.Flutes, api.BoardFlute{Pitch: pitch, Draw: pitch + r.Intn(pitch+1), High: some(1, 60)})
	}
	return s
}

// allBoards returns all boards of a store in ascending order: every list of numbers is tried, and sorted by what the chapter says.
func allBoards(s api.BoardStore) []api.BoardMake {
	var all []api.BoardMake
	var add func(papers, flutes []int, many int)
	add = func(papers, flutes []int, many int) {
		switch {
		case len(papers) < 2*many+1:
			for p, x := range s.Papers {
				if x.Kind == []api.BoardKind{api.BoardLiner, api.BoardMedium}[len(papers)%2] {
					add(append(slices.Clone(papers), p), flutes, many)
				}
			}
		case len(flutes) < many:
			for f := range s.Flutes {
				add(papers, append(slices.Clone(flutes), f), many)
			}
		default:
			all = append(all, api.BoardMake{Papers: papers, Flutes: flutes})
		}
	}
	add(nil, nil, 2)
	add(nil, nil, 1)
	slices.SortFunc(all, compare)
	return all
}

// compare compares boards as the chapter does.
func compare(a, b api.BoardMake) int {
	if len(a.Flutes) != len(b.Flutes) {
		return len(a.Flutes) - len(b.Flutes)
	}
	if c := slices.Compare(a.Papers, b.Papers); c != 0 {
		return c
	}
	return slices.Compare(a.Flutes, b.Flutes)
}

// same reports whether boards are equal.
func same(a, b api.BoardMake) bool { return compare(a, b) == 0 }

// sum adds up exactly what each place of a board has for a square metre of its paper, times the take-up.
func sum(s api.BoardStore, b api.BoardMake, of func(place int, p api.BoardPaper) int) *big.Rat {
	all := new(big.Rat)
	for place, paper := range b.Papers {
		part := new(big.Rat).SetInt64(int64(of(place, s.Papers[paper])))
		if place%2 == 1 {
			f := s.Flutes[b.Flutes[place/2]]
			part.Mul(part, big.NewRat(int64(f.Draw), int64(f.Pitch)))
		}
		all.Add(all, part)
	}
	return all
}

// down and up round a number that is not negative.
func down(r *big.Rat) int { return int(new(big.Int).Quo(r.Num(), r.Denom()).Int64()) }

func up(r *big.Rat) int {
	n := new(big.Int).Add(r.Num(), r.Denom())
	return int(n.Sub(n, big.NewInt(1)).Quo(n, r.Denom()).Int64())
}

// dry returns the dry weight, moist the moist weight and thick the caliper in a truth; a truth says of each place and flute what it chooses of a span.
func dry(s api.BoardStore, b api.BoardMake) *big.Rat {
	return sum(s, b, func(_ int, p api.BoardPaper) int { return p.Weight })
}

func moist(s api.BoardStore, b api.BoardMake, choose func(api.Span) int) int {
	w := sum(s, b, func(_ int, p api.BoardPaper) int { return p.Weight * (1000 + choose(p.Moist)) })
	return down(w.Mul(w, big.NewRat(1, 1000)))
}

func thick(s api.BoardStore, b api.BoardMake, choose func(api.Span) int) int {
	all := 0
	for place, paper := range b.Papers {
		if place%2 == 0 {
			all += choose(s.Papers[paper].Thick)
		}
	}
	for _, f := range b.Flutes {
		all += choose(s.Flutes[f].High)
	}
	return all
}

func strong(s api.BoardStore, b api.BoardMake) int {
	return down(sum(s, b, func(_ int, p api.BoardPaper) int { return p.Strong }))
}

func costs(s api.BoardStore, b api.BoardMake) int {
	c := sum(s, b, func(_ int, p api.BoardPaper) int { return p.Weight * p.Price })
	return up(c.Mul(c, big.NewRat(1, 1000)))
}

func low(s api.Span) int  { return s.Low }
func high(s api.Span) int { return s.High }

// rat returns a ratio as a big one; a ratio that is not in lowest terms is none.
func rat(r api.Ratio) *big.Rat {
	if r.Den <= 0 {
		return nil
	}
	x := big.NewRat(int64(r.Num), int64(r.Den))
	if x.Num().Int64() != int64(r.Num) || x.Denom().Int64() != int64(r.Den) {
		return nil
	}
	return x
}

// equal reports whether a ratio is in lowest terms, and as great as it must be.
func equal(r api.Ratio, x *big.Rat) bool {
	y := rat(r)
	return y != nil && y.Cmp(x) == 0
}

// fulfils reports whether a board meets a wish, by what is said of both.
func fulfils(s api.BoardStore, b api.BoardMake, w api.BoardWish) bool {
	return w.Caliper.Low <= thick(s, b, low) && thick(s, b, high) <= w.Caliper.High &&
		strong(s, b) >= w.Strong && dry(s, b).Cmp(big.NewRat(int64(w.Weight), 1)) <= 0
}

// someWish returns a wish that boards of someStore meet now and then.
func someWish(r *rand.Rand) api.BoardWish {
	c := r.Intn(150)
	return api.BoardWish{Caliper: span(c, c+r.Intn(250)), Strong: r.Intn(40), Weight: 20 + r.Intn(60)}
}
