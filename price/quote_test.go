package price_test

import (
	"math/rand"
	"testing"

	"testliner/api"
	"testliner/price"
)

// P12.2: the parts and the price of the chapter's examples, and of others.
func TestQuote(t *testing.T) {
	greatest := api.PriceQuote{Area: 100000, Board: 100000, Waste: 500, Tool: 1000000, Setup: 1000000, Run: 1, Work: 1000000, Pallet: 1, Freight: 1000000, Margin: 1000}
	for i, c := range []struct {
		q     api.PriceQuote
		n     int
		parts api.PriceParts
		price int
		each  api.Ratio
	}{
		{chapterQuote(), 500, api.PriceParts{Board: 11000, Tool: 5000, Setup: 300, Work: 450, Freight: 100}, 20220, api.Ratio{Num: 1011, Den: 25}},
		{chapterQuote(), 1000, api.PriceParts{Board: 22000, Tool: 5000, Setup: 300, Work: 900, Freight: 150}, 30618, api.Ratio{Num: 15309, Den: 500}},
		{chapterQuote(), 999, api.PriceParts{Board: 21978, Tool: 5000, Setup: 300, Work: 900, Freight: 150}, 33994, api.Ratio{Num: 33994, Den: 999}},
		{chapterQuote(), 1123, api.PriceParts{Board: 24706, Tool: 5000, Setup: 600, Work: 1011, Freight: 150}, 33985, api.Ratio{Num: 33985, Den: 1123}},
		{plain(func(*api.PriceQuote) {}), 1, api.PriceParts{}, 0, api.Ratio{Num: 0, Den: 1}},
		{plain(func(*api.PriceQuote) {}), 100000, api.PriceParts{}, 0, api.Ratio{Num: 0, Den: 1}},
		// Each part is rounded up by itself, and the price once more.
		{plain(func(q *api.PriceQuote) { q.Board, q.Work, q.Margin = 1, 1, 1 }), 1, api.PriceParts{Board: 1, Work: 1}, 3, api.Ratio{Num: 3, Den: 1}},
		// 1000 square metres cost just the price of board, and a square centimetre more a farthing more.
		{plain(func(q *api.PriceQuote) { q.Area, q.Board = 100, 100000 }), 100000, api.PriceParts{Board: 100000}, 100000, api.Ratio{Num: 1, Den: 1}},
		{plain(func(q *api.PriceQuote) { q.Area, q.Board = 10000, 1000 }), 1000, api.PriceParts{Board: 1000}, 1000, api.Ratio{Num: 1, Den: 1}},
		{plain(func(q *api.PriceQuote) { q.Area, q.Board = 10000, 1000 }), 1001, api.PriceParts{Board: 1001}, 1001, api.Ratio{Num: 1, Den: 1}},
		{plain(func(q *api.PriceQuote) { q.Area, q.Board = 9990, 1000 }), 1002, api.PriceParts{Board: 1001}, 1001, api.Ratio{Num: 1001, Den: 1002}},
		{plain(func(q *api.PriceQuote) { q.Area, q.Board, q.Waste = 10000, 1000, 500 }), 1, api.PriceParts{Board: 2}, 2, api.Ratio{Num: 2, Den: 1}},
		{plain(func(q *api.PriceQuote) { q.Setup, q.Run = 7, 10 }), 10, api.PriceParts{Setup: 7}, 7, api.Ratio{Num: 7, Den: 10}},
		{plain(func(q *api.PriceQuote) { q.Setup, q.Run = 7, 10 }), 11, api.PriceParts{Setup: 14}, 14, api.Ratio{Num: 14, Den: 11}},
		{plain(func(q *api.PriceQuote) { q.Freight, q.Pallet = 7, 10 }), 20, api.PriceParts{Freight: 14}, 14, api.Ratio{Num: 7, Den: 10}},
		{plain(func(q *api.PriceQuote) { q.Freight, q.Pallet = 7, 10 }), 21, api.PriceParts{Freight: 21}, 21, api.Ratio{Num: 1, Den: 1}},
		{plain(func(q *api.PriceQuote) { q.Work = 1000 }), 12, api.PriceParts{Work: 12}, 12, api.Ratio{Num: 1, Den: 1}},
		{plain(func(q *api.PriceQuote) { q.Work = 1001 }), 12, api.PriceParts{Work: 13}, 13, api.Ratio{Num: 13, Den: 12}},
		{greatest, 100000, api.PriceParts{Board: 150000000, Tool: 1000000, Setup: 100000000000, Work: 100000000, Freight: 100000000000}, 400502000000, api.Ratio{Num: 4005020, Den: 1}},
	} {
		parts, p, e := price.Quote(c.q, c.n)
		each, f := price.Each(c.q, c.n)
		if parts != c.parts || p != c.price || each != c.each || e+f != api.OK {
			t.Error(i, parts, p, each, e, f)
		}
	}
}

// P12.2: the last step whose From is not above the number counts, before the first one nothing is taken off.
func TestSteps(t *testing.T) {
	q := plain(func(q *api.PriceQuote) {
		q.Tool, q.Steps = 1000, list(step(2, 900), step(3, 0), step(5, 100), step(7, 50), step(8, 899), step(100000, 1))
	})
	for n, want := range map[int]int{1: 1000, 2: 100, 3: 1000, 4: 1000, 5: 900, 6: 900, 7: 950, 8: 101, 9: 101, 99999: 101, 100000: 999} {
		if _, got, e := price.Quote(q, n); got != want || e != api.OK {
			t.Error(n, got, e)
		}
	}
	q.Steps = list(step(1, 10))
	if _, got, e := price.Quote(q, 1); got != 990 || e != api.OK {
		t.Error(got, e)
	}
}

// P12.2: quotes with numbers up to the limits, held against numbers of any size.
func TestAnyQuote(t *testing.T) {
	r := rand.New(rand.NewSource(1))
	for range 4000 {
		count := pick(r, 3, 20, 1000, 100000)
		q, n := someQuote(r, count), pick(r, 1, 100000, some(r, 1, count), some(r, 1, count))
		wantParts, want := trueQuote(q, n)
		parts, got, e := price.Quote(q, n)
		each, f := price.Each(q, n)
		if parts != wantParts || got != want || e+f != api.OK || each.Num*n != want*each.Den || !lowest(each) {
			t.Fatal(q, n, parts, got, each, e, f)
		}
	}
}

// lowest reports whether a ratio is in lowest terms.
func lowest(x api.Ratio) bool {
	a, b := x.Num, x.Den
	for a != 0 {
		a, b = b%a, a
	}
	return x.Den > 0 && b == 1
}

// P12.5: what is paid back, and what stays paid.
func TestCredit(t *testing.T) {
	seven := plain(func(q *api.PriceQuote) { q.Tool = 7 })
	for i, c := range []struct {
		q                  api.PriceQuote
		n, bad, back, paid int
	}{
		{chapterQuote(), 500, 10, 404, 19816},
		{chapterQuote(), 500, 0, 0, 20220},
		{chapterQuote(), 500, 1, 40, 20180},
		{chapterQuote(), 500, 499, 20179, 41},
		{chapterQuote(), 500, 500, 20220, 0},
		{seven, 8, 1, 0, 7},
		{seven, 8, 2, 1, 6},
		{seven, 8, 7, 6, 1},
		{seven, 1, 1, 7, 0},
		{seven, 100000, 100000, 7, 0},
		{seven, 100000, 99999, 6, 1},
	} {
		if back, paid, e := price.Credit(c.q, c.n, c.bad); back != c.back || paid != c.paid || e != api.OK {
			t.Error(i, back, paid, e)
		}
	}
}

// P12.5, P12.9: what is paid back is not more than the share of the bad boxes, and less than a farthing below it; with what stays paid it is the price.
func TestAnyCredit(t *testing.T) {
	r := rand.New(rand.NewSource(2))
	for range 4000 {
		q, n := someQuote(r, 1000), pick(r, 1, 100000, some(r, 1, 1000))
		bad := pick(r, 0, n, some(r, 0, n))
		_, all := trueQuote(q, n)
		back, paid, e := price.Credit(q, n, bad)
		if back+paid != all || back*n > all*bad || (back+1)*n <= all*bad || back < 0 || paid < 0 || e != api.OK {
			t.Fatal(q, n, bad, back, paid, e)
		}
	}
}

// P12.9: the price is not below what the boxes cost the works less what is taken off, and twice as many cost the works no more than twice as much.
func TestFarthing(t *testing.T) {
	r := rand.New(rand.NewSource(3))
	for range 4000 {
		count := pick(r, 3, 20, 1000, 100000)
		q := someQuote(r, count)
		n := pick(r, some(r, 1, count), some(r, 1, 50000))
		parts, got, e := price.Quote(q, n)
		if got*1000 < costOf(parts)*(1000-trueOff(q, n)) || e != api.OK {
			t.Fatal(q, n, parts, got, e)
		}
		if n > 50000 {
			continue
		}
		if twice, _, e := price.Quote(q, 2*n); costOf(twice) > 2*costOf(parts) || e != api.OK {
			t.Fatal(q, n, parts, twice, e)
		}
	}
}

// P12.9: between two steps more boxes cost no less.
func TestMoreCostNoLess(t *testing.T) {
	r := rand.New(rand.NewSource(4))
	for range 60 {
		q := someQuote(r, pick(r, 20, 1000, 100000))
		last := 0
		for _, n := range numbers(r, q) {
			_, got, e := price.Quote(q, n)
			if got < last && trueOff(q, n) == trueOff(q, n-1) || e != api.OK {
				t.Fatal(q, n, got, last, e)
			}
			last = got
		}
	}
}

// numbers returns numbers of boxes one after another, near a step of a quote or anywhere.
func numbers(r *rand.Rand, q api.PriceQuote) []int {
	low := some(r, 1, 100000)
	if len(q.Steps) > 0 && r.Intn(3) > 0 {
		low = max(1, pick(r, q.Steps...).From-20)
	}
	var all []int
	for n := low; n <= min(100000, low+300); n++ {
		all = append(all, n)
	}
	return all
}
