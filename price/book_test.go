package price_test

import (
	"math/rand"
	"slices"
	"testing"

	"testliner/api"
	"testliner/price"
)

// P12.6: what each account has in the end, whatever its Closing is.
func TestBalance(t *testing.T) {
	for i, c := range []struct {
		b    api.PriceBook
		ends []int
	}{
		{chapterBook(20), list(40, 40, 20)},
		{chapterBook(25), list(40, 35, 25)},
		{chapterBook(0), list(40, 60, 0)},
		{chapterBook(most), list(40, 60-most, most)},
		{chapterBook(25, entry(2, 0, 30), entry(2, 0, 30)), list(100, 35, -35)},
		{book(nil, list(7), 8), list(7)},
		{book(nil, list(7, -9), 0, 0), list(7, -9)},
		{book(slices.Repeat(list(entry(0, 4, most)), 12), list(api.MaxPriceTotal, 1, 2, 3, api.MaxPriceTotal), 0, 0, 0, 0, 0), list(988000000, 1, 2, 3, 1012000000)},
		{book(slices.Repeat(list(entry(1, 0, most)), 12), list(api.MaxPriceTotal, -api.MaxPriceTotal), 0, 0), list(1012000000, -1012000000)},
	} {
		if l, e := price.Balance(c.b); !slices.Equal(l, c.ends) || e != api.OK {
			t.Error(i, l, e)
		}
	}
}

// P12.6, P12.11: by any entries, all accounts together have what they had at first, and a book with such a Closing balances.
func TestConserved(t *testing.T) {
	r := rand.New(rand.NewSource(1))
	for range 4000 {
		b := greatBook(r, some(r, 2, 5), some(r, 0, 12))
		got, e := price.Balance(b)
		if !slices.Equal(got, ends(b)) || sumOf(got) != sumOf(b.Opening) || e != api.OK {
			t.Fatal(b, got, e)
		}
		closed := book(b.Entries, b.Opening, got...)
		if price.Book(closed) != api.OK {
			// So much an account cannot have.
			continue
		}
		if l, e := price.Slips(closed); len(l) > 0 || e != api.ErrTwice {
			t.Fatal(closed, l, e)
		}
		if l, e := price.Fill(closed); len(l) != len(b.Entries) || len(blotsOf(b)) == 0 && e != api.OK {
			t.Fatal(closed, l, e)
		}
	}
}

// greatBook returns a book with numbers up to the limits, whose Closing is anything.
func greatBook(r *rand.Rand, accounts, many int) api.PriceBook {
	total := func() int {
		return pick(r, 0, api.MaxPriceTotal, -api.MaxPriceTotal, some(r, -api.MaxPriceTotal, api.MaxPriceTotal), some(r, -9, 9))
	}
	b := someBook(r, accounts, many, total, func() int { return pick(r, 0, 1, most, some(r, 0, most)) })
	for account := range b.Closing {
		b.Closing[account] = total()
	}
	return b
}

func sumOf(numbers []int) int {
	all := 0
	for _, n := range numbers {
		all += n
	}
	return all
}
