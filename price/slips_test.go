package price_test

import (
	"cmp"
	"math/rand"
	"slices"
	"testing"

	"testliner/api"
	"testliner/price"
)

// closed returns a book with another Closing.
func closed(b api.PriceBook, closing ...int) api.PriceBook {
	b.Closing = closing
	return b
}

// P12.8: the slips of the chapter's examples, and of others.
func TestSlips(t *testing.T) {
	for i, c := range []struct {
		b     api.PriceBook
		slips []api.PriceSlip
		e     api.Errno
	}{
		{chapterBook(20), list(slip(1, 1, 2, 25)), api.OK},
		{closed(chapterBook(25), 40, 85, -25), list(slip(1, 2, 1, 25)), api.OK},
		{closed(chapterBook(25), 40, 60, 0), list(slip(1, 1, 2, 0)), api.OK},
		{closed(chapterBook(25), 40, -25, 85), list(slip(0, 0, 2, 60), slip(1, 1, 2, 85)), api.OK},
		{closed(chapterBook(25), 15, 60, 25), list(slip(0, 0, 1, 85), slip(1, 0, 2, 25)), api.OK},
		{closed(chapterBook(25), 100, 35, -35), list(slip(0, 2, 1, 60)), api.OK},
		{closed(chapterBook(25), 65, 35, 0), list(slip(1, 1, 0, 25)), api.OK},
		{chapterBook(25), nil, api.ErrTwice},
		{book(nil, list(1), 1), nil, api.ErrTwice},
		{book(nil, list(1), 2), nil, api.ErrNone},
		// All accounts together have another sum.
		{closed(chapterBook(25), 41, 35, 25), nil, api.ErrNone},
		{closed(chapterBook(25), 41, 36, 25), nil, api.ErrNone},
		{closed(chapterBook(25), 40, 35, 24), nil, api.ErrNone},
		// An amount would have to be below 0, or above the greatest one: -1 is not one that cannot be read.
		{book(list(entry(0, 1, 0)), list(5, 5), 6, 4), nil, api.ErrNone},
		{book(list(entry(0, 1, 0)), list(5, 5), 7, 3), nil, api.ErrNone},
		{book(list(entry(0, 1, 1)), list(5, 5), 5, 5), list(slip(0, 0, 1, 0)), api.OK},
		{book(list(entry(0, 1, most)), list(5, 5), 4-most, 6+most), nil, api.ErrNone},
		{book(list(entry(0, 1, most-1)), list(5, 5), 5-most, 5+most), list(slip(0, 0, 1, most)), api.OK},
		// Turned around, with another amount, is not one slip.
		{book(list(entry(0, 1, 2)), list(5, 5), 7, 3), list(slip(0, 1, 0, 2)), api.OK},
		{book(list(entry(0, 1, 2)), list(5, 5), 8, 2), nil, api.ErrNone},
		// Neither is another From and another To.
		{book(list(entry(0, 1, 2)), list(5, 5, 5, 5), 5, 5, 3, 7), nil, api.ErrNone},
		{book(list(entry(0, 1, 2)), list(5, 5, 5, 5), 5, 3, 7, 5), nil, api.ErrNone},
		{book(list(entry(0, 1, 2)), list(5, 5, 5, 5), 5, 7, 3, 5), list(slip(0, 2, 1, 2)), api.OK},
		{book(list(entry(0, 1, 2)), list(5, 5, 5, 5), 3, 5, 5, 7), list(slip(0, 0, 3, 2)), api.OK},
		// Neither are another From, or another To, with another amount.
		{book(list(entry(0, 1, 2)), list(5, 5, 5), 5, 8, 2), nil, api.ErrNone},
		{book(list(entry(0, 1, 2)), list(5, 5, 5), 2, 5, 8), nil, api.ErrNone},
		// In each of two entries that are the same.
		{book(list(entry(0, 1, 2), entry(0, 1, 2)), list(5, 5, 5), 1, 7, 7), list(slip(0, 0, 2, 2), slip(1, 0, 2, 2)), api.OK},
		{book(list(entry(0, 1, 4), entry(2, 0, 4), entry(2, 1, 4)), list(0, 0, 0), 4, 8, -12), list(slip(0, 2, 1, 4), slip(1, 2, 0, 8)), api.OK},
		{closed(chapterBook(25, entry(0, 2, 30), entry(0, 2, 30)), 40, 35, 25), list(slip(0, 2, 1, 60), slip(2, 2, 0, 30), slip(3, 2, 0, 30)), api.OK},
	} {
		if l, e := price.Slips(c.b); !slices.Equal(l, c.slips) || e != c.e {
			t.Error(i, l, e)
		}
	}
}

// P12.8: held against all entries that are other than one of the book in one thing alone, or turned around, in books in which no other amounts come into question.
func TestAllSlips(t *testing.T) {
	var amounts []int
	for n := range 60 {
		amounts = append(amounts, n)
	}
	for n := most - 60; n <= most; n++ {
		amounts = append(amounts, n)
	}
	r := rand.New(rand.NewSource(1))
	many := map[int]int{}
	for range 600 {
		near := func() int { return pick(r, 0, 0, 1, some(r, 0, 5), most, most-some(r, 0, 5)) }
		few := func() int { return some(r, 0, 4) }
		b := someBook(r, some(r, 2, 4), some(r, 0, 6), few, pick(r, near, few))
		switch r.Intn(4) {
		case 0:
			from := r.Intn(len(b.Closing))
			b.Closing[from] += some(r, -4, 4)
			b.Closing[(from+1)%len(b.Closing)] += some(r, -4, 4)
		default:
			if len(b.Entries) > 0 {
				b = changed(r, b, r.Intn(len(b.Entries)), near)
			}
		}
		want, e := trueSlips(b, amounts), api.OK
		switch {
		case balances(b):
			want, e = nil, api.ErrTwice
		case len(want) == 0:
			e = api.ErrNone
		}
		got, f := price.Slips(b)
		if !slices.Equal(got, want) || f != e {
			t.Fatal(b, got, f, want, e)
		}
		many[len(got)]++
	}
	if many[0] == 600 || many[1] < 50 || many[2] < 20 || many[3] < 5 {
		t.Error(many)
	}
}

// changed returns a book with an entry that was changed in one thing, to another value, or turned around.
func changed(r *rand.Rand, b api.PriceBook, number int, amount func() int) api.PriceBook {
	e := b.Entries[number]
	for {
		other, account := e, r.Intn(len(b.Opening))
		switch r.Intn(4) {
		case 0:
			other.Amount = amount()
		case 1:
			other.From = account
		case 2:
			other.To = account
		default:
			other.From, other.To = e.To, e.From
		}
		if other != e && other.From != other.To {
			return with(b, number, other)
		}
	}
}

// P12.13: with each slip the book balances, slips ascend, and the way back is among them, with numbers up to the limits.
func TestWayBack(t *testing.T) {
	r := rand.New(rand.NewSource(2))
	for range 4000 {
		amount := func() int { return pick(r, 0, most, some(r, 0, most), some(r, 0, 9)) }
		b := someBook(r, some(r, 2, 5), some(r, 1, 12), func() int { return some(r, -900000000, 900000000) }, amount)
		number := r.Intn(len(b.Entries))
		wrong := changed(r, b, number, amount)
		slips, e := price.Slips(wrong)
		if balances(wrong) {
			// Nothing is paid, to whomever.
			if len(slips) > 0 || e != api.ErrTwice {
				t.Fatal(wrong, slips, e)
			}
			continue
		}
		was := b.Entries[number]
		if !slices.Contains(slips, slip(number, was.From, was.To, was.Amount)) || e != api.OK {
			t.Fatal(wrong, slips, e)
		}
		if !slices.IsSortedFunc(slips, compareSlips) {
			t.Fatal(wrong, slips)
		}
		for _, s := range slips {
			right := with(wrong, s.Entry, entry(s.From, s.To, s.Amount))
			if l, e := price.Slips(right); len(l) > 0 || e != api.ErrTwice {
				t.Fatal(wrong, s, l, e)
			}
			if l, e := price.Balance(right); !slices.Equal(l, wrong.Closing) || e != api.OK {
				t.Fatal(wrong, s, l, e)
			}
		}
	}
}

// compareSlips compares slips by their entries, then by From, To and Amount.
func compareSlips(a, b api.PriceSlip) int {
	return cmp.Or(cmp.Compare(a.Entry, b.Entry), cmp.Compare(a.From, b.From), cmp.Compare(a.To, b.To), cmp.Compare(a.Amount, b.Amount))
}
