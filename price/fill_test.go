package price_test

import (
	"math/rand"
	"slices"
	"testing"

	"testliner/api"
	"testliner/price"
)

// P12.7: what each amount can be in the chapter's examples, and in others.
func TestFill(t *testing.T) {
	around := list(blot(0, 1), blot(1, 2), blot(2, 0))
	for i, c := range []struct {
		b     api.PriceBook
		spans []api.Span
		e     api.Errno
	}{
		{chapterBook(-1), list(to(60, 60), to(25, 25)), api.OK},
		{chapterBook(-1, blot(2, 1)), list(to(60, 60), to(25, most), to(0, 999975)), api.OK},
		{chapterBook(-1, blot(1, 2)), list(to(60, 60), to(0, 25), to(0, 25)), api.OK},
		{chapterBook(25), list(to(60, 60), to(25, 25)), api.OK},
		{chapterBook(20), nil, api.ErrState},
		{chapterBook(-1, entry(2, 0, 5)), nil, api.ErrState},
		{book(nil, list(5), 5), nil, api.OK},
		{book(nil, list(5), 6), nil, api.ErrState},
		{book(nil, list(5), 4), nil, api.ErrState},
		// All accounts together have another sum in the end.
		{book(blots(6, 0, 1), list(5, 5), 4, 5), nil, api.ErrState},
		{book(blots(6, 0, 1), list(5, 5), 5, 6), nil, api.ErrState},
		{book(list(blot(0, 1), blot(1, 0)), list(5, 5), 0, 11), nil, api.ErrState},
		// The account 1 would have to pay the account 0.
		{book(list(blot(0, 1)), list(5, 5), 6, 4), nil, api.ErrState},
		{book(list(blot(0, 1)), list(5, 5), 5, 5), list(to(0, 0)), api.OK},
		// All that there can be, and one farthing more.
		{book(blots(1, 0, 1), list(0, 0), -most, most), list(to(most, most)), api.OK},
		{book(blots(1, 0, 1), list(0, 0), -most-1, most+1), nil, api.ErrState},
		{book(blots(6, 0, 1), list(0, 0), -6*most, 6*most), slices.Repeat(list(to(most, most)), 6), api.OK},
		{book(blots(6, 0, 1), list(0, 0), 1-6*most, 6*most-1), slices.Repeat(list(to(most-1, most)), 6), api.OK},
		{book(blots(6, 0, 1), list(0, 0), -6*most-1, 6*most+1), nil, api.ErrState},
		{book(blots(2, 0, 1), list(0, 0), -1500000, 1500000), slices.Repeat(list(to(500000, most)), 2), api.OK},
		// Around, as much as there can be.
		{book(around, list(0, 0, 0), 0, 0, 0), slices.Repeat(list(to(0, most)), 3), api.OK},
		{book(around, list(0, 0, 0), -1, 1, 0), list(to(1, most), to(0, 999999), to(0, 999999)), api.OK},
		{book(around, list(0, 0, 0), 1, -1, 0), list(to(0, 999999), to(1, most), to(1, most)), api.OK},
		{book(around, list(0, 0, 0), -most, 0, most), list(to(most, most), to(most, most), to(0, 0)), api.OK},
		{book(around, list(0, 0, 0), -most-1, 1, most), nil, api.ErrState},
		// Two that pay and two that get.
		{book(list(blot(0, 2), blot(0, 3), blot(1, 2), blot(1, 3)), list(0, 0, 0, 0), -10, -20, 15, 15), list(to(0, 10), to(0, 10), to(5, 15), to(5, 15)), api.OK},
		// On from account to account, and an account apart.
		{book(list(blot(0, 1), entry(4, 0, 3), blot(1, 2), blot(2, 3)), list(0, 0, 0, 0, 9), -7, 2, 3, 5, 6), list(to(10, 10), to(3, 3), to(8, 8), to(5, 5)), api.OK},
		{book(list(blot(0, 1), entry(4, 0, 3), blot(1, 2), blot(2, 3)), list(0, 0, 0, 0, 9), -7, 2, 3, 4, 7), nil, api.ErrState},
	} {
		if l, e := price.Fill(c.b); !slices.Equal(l, c.spans) || e != c.e {
			t.Error(i, l, e)
		}
	}
}

// P12.7: held against all amounts, in books in which money goes to accounts of greater numbers only, so that no amount is above all that the book has to send.
func TestFillAll(t *testing.T) {
	r := rand.New(rand.NewSource(1))
	found, none := 0, 0
	for range 600 {
		b := someBook(r, some(r, 2, 5), some(r, 1, 6), func() int { return some(r, -3, 3) }, func() int { return some(r, 0, 2) })
		for number, e := range b.Entries {
			b = with(b, number, entry(min(e.From, e.To), max(e.From, e.To), e.Amount))
		}
		b.Closing = ends(b)
		if r.Intn(3) == 0 {
			b.Closing[0] += some(r, -1, 1)
			b.Closing[1] += some(r, -1, 1)
		}
		b = blotted(r, b, some(r, 1, min(4, len(b.Entries))))
		all := filled(b)
		spans, e := price.Fill(b)
		late := api.OK
		if len(all) == 0 {
			late = api.ErrState
			none++
		}
		if !slices.Equal(spans, spansOf(all)) || e != late {
			t.Fatal(b, spans, e, spansOf(all))
		}
		found += len(all)
	}
	if found < 1000 || none < 20 {
		t.Error(found, none)
	}
}

// filled returns a book with all amounts from 0 to 9 with which it balances.
func filled(b api.PriceBook) []api.PriceBook {
	open := blotsOf(b)
	var all []api.PriceBook
	for choice := range power(10, len(open)) {
		tried := b
		tried.Entries = slices.Clone(b.Entries)
		for _, number := range open {
			tried.Entries[number].Amount = choice % 10
			choice /= 10
		}
		if balances(tried) {
			all = append(all, tried)
		}
	}
	return all
}

// openBook returns a book that balances with some amounts, with numbers up to the limits or small ones, up to six of which cannot be read.
func openBook(r *rand.Rand) api.PriceBook {
	amount := pick(r,
		func() int { return some(r, 0, 9) },
		func() int { return pick(r, 0, most) },
		func() int { return pick(r, 0, 1, most, most-1, some(r, 0, most)) },
		func() int { return some(r, 0, most) },
	)
	b := someBook(r, some(r, 2, 5), some(r, 0, 12), func() int { return some(r, -900000000, 900000000) }, amount)
	return blotted(r, b, some(r, 0, min(6, len(b.Entries))))
}

// P12.7, P12.12: held against the corners of all amounts. The amounts that were there at first lie in the spans, and both ends of each span are reached by amounts with which the book balances.
func TestFillCorners(t *testing.T) {
	r := rand.New(rand.NewSource(2))
	for range 1200 {
		b := openBook(r)
		if r.Intn(4) == 0 {
			by := pick(r, 1, 2, 10, most, some(r, 0, most))
			b.Closing[0] += by
			b.Closing[1] -= by
		}
		all := corners(b)
		spans, e := price.Fill(b)
		if len(all) == 0 {
			if len(spans) > 0 || e != api.ErrState {
				t.Fatal(b, spans, e)
			}
			continue
		}
		if !slices.Equal(spans, spansOf(all)) || e != api.OK {
			t.Fatal(b, spans, e, spansOf(all))
		}
		for _, corner := range all {
			if l, e := price.Balance(corner); !slices.Equal(l, b.Closing) || e != api.OK {
				t.Fatal(corner, l, e)
			}
		}
	}
}

// P12.12: whatever the amounts truly are, each lies in its span.
func TestFillTrue(t *testing.T) {
	r := rand.New(rand.NewSource(3))
	for range 4000 {
		b := someBook(r, some(r, 2, 5), some(r, 0, 12), func() int { return some(r, -900000000, 900000000) }, func() int { return pick(r, 0, most, some(r, 0, most)) })
		spans, e := price.Fill(blotted(r, b, some(r, 0, min(6, len(b.Entries)))))
		if len(spans) != len(b.Entries) || e != api.OK {
			t.Fatal(b, spans, e)
		}
		for number, e := range b.Entries {
			if !within(to(e.Amount, e.Amount), spans[number]) {
				t.Fatal(b, spans)
			}
		}
	}
}

// P12.12: with one amount more that can be read no span is wider, and it can be read as any number of its span, and no other.
func TestFillRead(t *testing.T) {
	r := rand.New(rand.NewSource(4))
	for range 2000 {
		b := openBook(r)
		spans, e := price.Fill(b)
		if e != api.OK {
			t.Fatal(b, e)
		}
		for _, number := range blotsOf(b) {
			can := spans[number]
			for _, amount := range list(can.Low-1, can.Low, some(r, can.Low, can.High), can.High, can.High+1) {
				if amount < 0 || amount > most {
					continue
				}
				narrow, e := price.Fill(read(b, number, amount))
				if amount < can.Low || amount > can.High {
					if len(narrow) > 0 || e != api.ErrState {
						t.Fatal(b, number, amount, narrow, e)
					}
					continue
				}
				if e != api.OK || narrow[number] != to(amount, amount) {
					t.Fatal(b, number, amount, narrow, e)
				}
				for other, s := range narrow {
					if !within(s, spans[other]) {
						t.Fatal(b, number, amount, narrow, spans)
					}
				}
			}
		}
	}
}
