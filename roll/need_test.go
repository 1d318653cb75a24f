package roll_test

import (
	"math/big"
	"math/rand"
	"slices"
	"testing"

	"testliner/api"
	"testliner/roll"
)

// store returns a store of a liner, a medium, and flutes with these pitches and draws.
func store(flutes ...api.Ratio) api.BoardStore {
	s := api.BoardStore{Papers: []api.BoardPaper{
		{Kind: api.BoardLiner, Weight: 200, Thick: to(250, 270), Moist: to(60, 80), Price: 400000, Strong: 300},
		{Kind: api.BoardMedium, Weight: 120, Thick: to(180, 190), Moist: to(70, 90), Price: 300000, Strong: 200},
	}}
	for _, f := range flutes {
		s.Flutes = append(s.Flutes, api.BoardFlute{Pitch: f.Den, Draw: f.Num, High: to(3600, 3700)})
	}
	return s
}

// made returns the board with these flutes.
func made(flutes ...int) api.BoardMake {
	b := api.BoardMake{Papers: list(0), Flutes: flutes}
	for range flutes {
		b.Papers = append(b.Papers, 1, 0)
	}
	return b
}

// P7.2: the chapter's example, and the edges.
func TestNeedExamples(t *testing.T) {
	s := store(api.Ratio{Num: 12000, Den: 8000}, api.Ratio{Num: 8000, Den: 6000}, api.Ratio{Num: 7000, Den: 7000}, api.Ratio{Num: 20000, Den: 10000})
	for i, c := range []struct {
		b    api.BoardMake
		long int
		need []int
	}{
		{made(0), 1001, list(1001, 1502, 1001)},
		{made(0), 1000, list(1000, 1500, 1000)},
		{made(1), 1001, list(1001, 1335, 1001)},
		{made(1), 1, list(1, 2, 1)},
		{made(1), 2, list(2, 3, 2)},
		{made(1), 3, list(3, 4, 3)},
		{made(2), 5000000, list(5000000, 5000000, 5000000)},
		{made(3), 5000000, list(5000000, 10000000, 5000000)},
		{made(0, 1), 1001, list(1001, 1502, 1001, 1335, 1001)},
		{made(1, 0), 1001, list(1001, 1335, 1001, 1502, 1001)},
		{made(2, 3), 7, list(7, 7, 7, 14, 7)},
		{made(0), 0, list(0, 0, 0)},
		{made(1, 3), 0, list(0, 0, 0, 0, 0)},
	} {
		if need, e := roll.Need(s, c.b, c.long); !slices.Equal(need, c.need) || e != api.OK {
			t.Error(i, need, e)
		}
	}
}

// P7.2, P7.11: a medium is the length times the take-up, rounded up; two lengths need no less than both together, and at most one millimetre more.
func TestNeed(t *testing.T) {
	r := rand.New(rand.NewSource(1))
	for range 3000 {
		var flutes []api.Ratio
		for range 4 {
			pitch := pick(r, 1000, 10000, some(r, 1000, 10000))
			flutes = append(flutes, api.Ratio{Num: some(r, pitch, 2*pitch), Den: pitch})
		}
		b := made(r.Perm(4)[:some(r, 1, 2)]...)
		one := pick(r, r.Intn(10), r.Intn(2500001))
		two := pick(r, r.Intn(10), r.Intn(2500001))
		first, e := roll.Need(store(flutes...), b, one)
		second, f := roll.Need(store(flutes...), b, two)
		both, g := roll.Need(store(flutes...), b, one+two)
		if e != api.OK || f != api.OK || g != api.OK || len(first) != len(b.Papers) || len(second) != len(first) || len(both) != len(first) {
			t.Fatal(flutes, b, first, e, second, f, both, g)
		}
		for place := range first {
			up := rat(1)
			if place%2 == 1 {
				flute := flutes[b.Flutes[place/2]]
				up = big.NewRat(int64(flute.Num), int64(flute.Den))
			}
			exact := up.Mul(up, rat(one))
			if more := first[place] + second[place] - both[place]; first[place] != over(exact) || more < 0 || more > 1 {
				t.Error(flutes, b, place, one, two, first, second, both)
			}
			if less := new(big.Rat).Sub(rat(first[place]), exact); less.Sign() < 0 || less.Cmp(rat(1)) >= 0 {
				t.Error(flutes, b, place, one, first)
			}
		}
	}
}
