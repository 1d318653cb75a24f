package price_test

import (
	"math"
	"math/big"
	"math/rand"
	"testing"

	"testliner/api"
	"testliner/price"
)

// P12.3: the number of which each costs least, of several the smallest.
func TestCheapest(t *testing.T) {
	tool := plain(func(q *api.PriceQuote) { q.Tool = 60 })
	work := plain(func(q *api.PriceQuote) { q.Work = 1000000 })
	runs := plain(func(q *api.PriceQuote) { q.Setup, q.Run = 8, 4 })
	for i, c := range []struct {
		q      api.PriceQuote
		counts api.Span
		n      int
	}{
		{chapterQuote(), to(999, 1000), 1000},
		{chapterQuote(), to(500, 500), 500},
		{chapterQuote(), to(1, 5000), 5000},
		{chapterQuote(), to(1, 1600), 1600},
		{chapterQuote(), to(990, 1010), 1000},
		{chapterQuote(), to(1001, 1100), 1100},
		{tool, to(1, 5000), 5000},
		{tool, to(95001, 100000), 100000},
		{tool, to(1, 1), 1},
		{tool, to(100000, 100000), 100000},
		{work, to(3, 9), 3},
		{work, to(1, 5000), 1},
		{runs, to(1, 9), 4},
		{runs, to(5, 9), 8},
		{runs, to(5, 7), 7},
		{plain(func(*api.PriceQuote) {}), to(7, 5006), 7},
	} {
		if n, e := price.Cheapest(c.q, c.counts); n != c.n || e != api.OK {
			t.Error(i, n, e)
		}
	}
}

// P12.3, P12.10: no number of the span costs less each, and no smaller one as little, with numbers up to the limits.
func TestAnyCheapest(t *testing.T) {
	r := rand.New(rand.NewSource(1))
	for range 400 {
		q := someQuote(r, pick(r, 10, 100, 100000))
		low := pick(r, 1, some(r, 1, 100), some(r, 1, 100000))
		counts := to(low, min(100000, low+some(r, 0, 200)))
		best, e := price.Cheapest(q, counts)
		if best < counts.Low || best > counts.High || e != api.OK {
			t.Fatal(q, counts, best, e)
		}
		least := each(q, best)
		for n := counts.Low; n <= counts.High; n++ {
			if c := each(q, n).Cmp(least); c < 0 || c == 0 && n < best {
				t.Fatal(q, counts, best, n)
			}
		}
	}
}

// each returns the price of one of so many boxes, exactly.
func each(q api.PriceQuote, n int) *big.Rat {
	_, all := trueQuote(q, n)
	return big.NewRat(int64(all), int64(n))
}

// P12.4: the greatest number whose price is not above so much money.
func TestBudget(t *testing.T) {
	tool := plain(func(q *api.PriceQuote) { q.Tool = 60 })
	falls := plain(func(q *api.PriceQuote) { q.Tool, q.Steps = 10, list(step(1, 500), step(4, 0), step(7, 100)) })
	for i, c := range []struct {
		q        api.PriceQuote
		money, n int
		e        api.Errno
	}{
		{chapterQuote(), 33994, 1123, api.OK},
		{chapterQuote(), 33985, 1123, api.OK},
		{chapterQuote(), 33984, 1122, api.OK},
		{chapterQuote(), 30618, 1000, api.OK},
		{chapterQuote(), 30617, 876, api.OK},
		{chapterQuote(), math.MaxInt, 100000, api.OK},
		{chapterQuote(), 0, 0, api.ErrNone},
		{chapterQuote(), -1, 0, api.ErrState},
		{chapterQuote(), math.MinInt, 0, api.ErrState},
		{tool, 61, 100000, api.OK},
		{tool, 60, 100000, api.OK},
		{tool, 59, 0, api.ErrNone},
		{plain(func(*api.PriceQuote) {}), 0, 100000, api.OK},
		{falls, 10, 100000, api.OK},
		{falls, 9, 100000, api.OK},
		{falls, 8, 3, api.OK},
		{falls, 5, 3, api.OK},
		{falls, 4, 0, api.ErrNone},
		// The last number alone, and the first number alone, cost so little.
		{plain(func(q *api.PriceQuote) { q.Tool, q.Steps = 10, list(step(100000, 100)) }), 9, 100000, api.OK},
		{plain(func(q *api.PriceQuote) { q.Tool, q.Steps = 10, list(step(1, 100), step(2, 0)) }), 9, 1, api.OK},
		{plain(func(q *api.PriceQuote) { q.Work = 1000 }), 1, 1, api.OK},
		{plain(func(q *api.PriceQuote) { q.Work = 1000 }), 99999, 99999, api.OK},
		{plain(func(q *api.PriceQuote) { q.Work = 1000 }), 0, 0, api.ErrNone},
	} {
		if n, e := price.Budget(c.q, c.money); n != c.n || e != c.e {
			t.Error(i, n, e)
		}
	}
}

// P12.4: the greatest number whose price is not above that of some boxes.
func TestMore(t *testing.T) {
	for n, want := range map[int]int{999: 1123, 1000: 1000, 500: 500, 1: 1, 900: 1013, 1123: 1123, 1124: 1124, 876: 876, 877: 1000, 100000: 100000} {
		if m, e := price.More(chapterQuote(), n); m != want || e != api.OK {
			t.Error(n, m, e)
		}
	}
	for n, want := range map[int]int{1: 3, 3: 3, 4: 100000, 6: 100000, 7: 100000} {
		q := plain(func(q *api.PriceQuote) { q.Tool, q.Steps = 10, list(step(1, 500), step(4, 0), step(7, 100)) })
		if m, e := price.More(q, n); m != want || e != api.OK {
			t.Error(n, m, e)
		}
	}
}

// prices returns the prices of all numbers of boxes, reckoned apart, each at the place of its number.
func prices(q api.PriceQuote) []int {
	share := func(n, by int) int {
		if n%by > 0 {
			return n/by + 1
		}
		return n / by
	}
	all := make([]int, 100001)
	off, left := 0, q.Steps
	for n := 1; n <= 100000; n++ {
		if len(left) > 0 && left[0].From == n {
			off, left = left[0].Off, left[1:]
		}
		board := share(n*q.Area*(1000+q.Waste)*q.Board, 10000000000)
		cost := board + q.Tool + q.Setup*share(n, q.Run) + share(q.Work*n, 1000) + q.Freight*share(n, q.Pallet)
		all[n] = share(cost*(1000+q.Margin)*(1000-off), 1000000)
	}
	return all
}

// P12.4, P12.10: Budget and More return numbers whose price is not too high, and each greater number costs more: held against all numbers of boxes.
func TestAnyBudget(t *testing.T) {
	r := rand.New(rand.NewSource(2))
	for range 150 {
		q := someQuote(r, pick(r, 10, 1000, 100000))
		all := prices(q)
		greatest := func(money int) int {
			n := 100000
			for n > 0 && all[n] > money {
				n--
			}
			return n
		}
		for range 10 {
			n := pick(r, 1, 100000, some(r, 1, 20), some(r, 1, 100000))
			if len(q.Steps) > 0 && r.Intn(2) > 0 {
				n = min(100000, max(1, pick(r, q.Steps...).From+some(r, -2, 1)))
			}
			if m, e := price.More(q, n); m != greatest(all[n]) || e != api.OK {
				t.Fatal(q, n, m, e)
			}
			money := max(0, all[n]+some(r, -1, 1))
			want, late := greatest(money), api.OK
			if want == 0 {
				late = api.ErrNone
			}
			if m, e := price.Budget(q, money); m != want || e != late {
				t.Fatal(q, money, m, e)
			}
		}
	}
}
