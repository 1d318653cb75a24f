package price_test

import (
	"math"
	"reflect"
	"slices"
	"testing"

	"testliner/api"
	"testliner/price"
)

// input is an argument for all functions.
type input struct {
	q             api.PriceQuote
	n, bad, money int
	counts        api.Span
	b             api.PriceBook
}

// good returns arguments with which each function but Fill finds something, as the book does not balance, but for what change does.
func good(change func(i *input)) input {
	i := input{q: chapterQuote(), n: 500, bad: 10, money: 33994, counts: to(900, 1000), b: chapterBook(20)}
	change(&i)
	return i
}

// The functions, by what they are about, and all of them.
func aboutCounts() []string { return list("Quote", "Each", "More", "Credit") }
func aboutQuotes() []string {
	return slices.Concat(list("Check", "Cheapest", "Budget"), aboutCounts())
}
func aboutBooks() []string { return list("Book", "Balance", "Fill", "Slips") }
func readBooks() []string  { return list("Balance", "Slips") }

// errorsWith returns the errors of all functions, and checks that all else that they return is zero if there is one.
func errorsWith(t *testing.T, i input) map[string]api.Errno {
	t.Helper()
	got := map[string]api.Errno{}
	add := func(name string, e api.Errno, results ...any) {
		got[name] = e
		for _, y := range results {
			v := reflect.ValueOf(y)
			if e != api.OK && !v.IsZero() && !(v.Kind() == reflect.Slice && v.Len() == 0) {
				t.Errorf("%s: %d with %v", name, e, y)
			}
		}
	}
	add("Check", price.Check(i.q))
	parts, all, e := price.Quote(i.q, i.n)
	add("Quote", e, parts, all)
	each, e := price.Each(i.q, i.n)
	add("Each", e, each)
	cheapest, e := price.Cheapest(i.q, i.counts)
	add("Cheapest", e, cheapest)
	budget, e := price.Budget(i.q, i.money)
	add("Budget", e, budget)
	more, e := price.More(i.q, i.n)
	add("More", e, more)
	back, paid, e := price.Credit(i.q, i.n, i.bad)
	add("Credit", e, back, paid)
	add("Book", price.Book(i.b))
	ends, e := price.Balance(i.b)
	add("Balance", e, ends)
	spans, e := price.Fill(i.b)
	add("Fill", e, spans)
	slips, e := price.Slips(i.b)
	add("Slips", e, slips)
	return got
}

// expect checks that some functions have an error. Without one, no amounts may make the book balance, or it may do so as it is.
func expect(t *testing.T, name string, i input, e api.Errno, functions ...string) {
	t.Helper()
	got := errorsWith(t, i)
	for _, f := range functions {
		nothing := got[f] == api.ErrState && f == "Fill" || (got[f] == api.ErrTwice || got[f] == api.ErrNone) && f == "Slips"
		if got[f] != e && (e != api.OK || !nothing) {
			t.Errorf("%s: %s: %d, want %d", name, f, got[f], e)
		}
	}
}

// beyond returns numbers that are not from low to high, inside such as are.
func beyond(low, high int) []int {
	return list(low-1, high+1, math.MinInt, math.MaxInt, low-1000000, 2*high+1)
}

func inside(low, high int) []int { return list(low, low+1, high-1, high) }

// With nothing wrong just Fill has an error, as the book does not balance.
func TestNoErrors(t *testing.T) {
	for f, e := range errorsWith(t, good(func(*input) {})) {
		if f == "Fill" && e != api.ErrState || f != "Fill" && e != api.OK {
			t.Error(f, e)
		}
	}
}

// field is a number of a quote, with its limits.
type field struct {
	of        func(q *api.PriceQuote) *int
	low, high int
}

func fields() map[string]field {
	return map[string]field{
		"Area":    {func(q *api.PriceQuote) *int { return &q.Area }, 1, 100000},
		"Board":   {func(q *api.PriceQuote) *int { return &q.Board }, 0, 100000},
		"Waste":   {func(q *api.PriceQuote) *int { return &q.Waste }, 0, 500},
		"Tool":    {func(q *api.PriceQuote) *int { return &q.Tool }, 0, 1000000},
		"Setup":   {func(q *api.PriceQuote) *int { return &q.Setup }, 0, 1000000},
		"Run":     {func(q *api.PriceQuote) *int { return &q.Run }, 1, 100000},
		"Work":    {func(q *api.PriceQuote) *int { return &q.Work }, 0, 1000000},
		"Pallet":  {func(q *api.PriceQuote) *int { return &q.Pallet }, 1, 100000},
		"Freight": {func(q *api.PriceQuote) *int { return &q.Freight }, 0, 1000000},
		"Margin":  {func(q *api.PriceQuote) *int { return &q.Margin }, 0, 1000},
	}
}

// P12.1: each number of a quote, after the steps, and before what a function is asked.
func TestQuoteErrors(t *testing.T) {
	for name, f := range fields() {
		for _, n := range inside(f.low, f.high) {
			expect(t, name, good(func(i *input) { *f.of(&i.q), i.money = n, math.MaxInt }), api.OK, aboutQuotes()...)
		}
		for _, n := range beyond(f.low, f.high) {
			bad := func(i *input) { *f.of(&i.q) = n }
			expect(t, name, good(bad), api.ErrArg, aboutQuotes()...)
			expect(t, name+" and all else", good(func(i *input) {
				bad(i)
				i.n, i.bad, i.money, i.counts = 0, -1, -1, to(0, 9999)
			}), api.ErrArg, aboutQuotes()...)
			expect(t, name+" and a bad step", good(func(i *input) {
				bad(i)
				i.q.Steps = list(step(0, 0))
			}), api.ErrForm, aboutQuotes()...)
			expect(t, name+" and seven steps", good(func(i *input) {
				bad(i)
				i.q.Steps = make([]api.PriceStep, 7)
			}), api.ErrLong, aboutQuotes()...)
		}
	}
}

// P12.1: the steps, their number first.
func TestStepErrors(t *testing.T) {
	seven := list(step(1, 0), step(2, 900), step(3, 5), step(4, 5), step(5, 6), step(100000, 900), step(100001, 0))
	for many := range 7 {
		expect(t, "good steps", good(func(i *input) { i.q.Steps = seven[:many] }), api.OK, aboutQuotes()...)
		expect(t, "good steps", good(func(i *input) { i.q.Steps = seven[6-many : 6] }), api.OK, aboutQuotes()...)
		for place := range many {
			for _, s := range badSteps() {
				expect(t, "a bad step", good(func(i *input) {
					i.q.Steps = slices.Clone(seven[:many])
					i.q.Steps[place] = s
				}), api.ErrForm, aboutQuotes()...)
			}
		}
	}
	for many := range 4 {
		expect(t, "many steps", good(func(i *input) { i.q.Steps = append(slices.Clone(seven), make([]api.PriceStep, many)...) }), api.ErrLong, aboutQuotes()...)
	}
	for name, steps := range map[string][]api.PriceStep{
		"twice":                 list(step(5, 1), step(5, 2)),
		"twice, the same":       list(step(5, 1), step(5, 1)),
		"descending":            list(step(5, 1), step(4, 2)),
		"descending at the end": list(step(5, 1), step(7, 1), step(6, 2)),
		"back to the first":     list(step(5, 1), step(7, 1), step(5, 2)),
	} {
		expect(t, name, good(func(i *input) { i.q.Steps = steps }), api.ErrForm, aboutQuotes()...)
	}
	expect(t, "less off", good(func(i *input) { i.q.Steps = list(step(5, 900), step(6, 899), step(7, 0)) }), api.OK, aboutQuotes()...)
}

// badSteps are steps that are not valid.
func badSteps() []api.PriceStep {
	var steps []api.PriceStep
	for _, from := range beyond(1, 100000) {
		steps = append(steps, step(from, 5))
	}
	for place := range 6 {
		for _, off := range beyond(0, 900) {
			steps = append(steps, step(1+place, off), step(100000, off))
		}
	}
	return steps
}

// P12.1, P12.5: the number of boxes, before how many are bad.
func TestCountErrors(t *testing.T) {
	for _, n := range beyond(1, 100000) {
		for _, bad := range list(0, -1, n, math.MinInt, math.MaxInt) {
			expect(t, "a number", good(func(i *input) { i.n, i.bad = n, bad }), api.ErrRange, aboutCounts()...)
		}
	}
	for _, n := range inside(1, 100000) {
		expect(t, "a number", good(func(i *input) { i.n, i.bad = n, 1 }), api.OK, aboutCounts()...)
		for _, bad := range list(0, 1, n-1, n) {
			expect(t, "bad boxes", good(func(i *input) { i.n, i.bad = n, bad }), api.OK, "Credit")
		}
		for _, bad := range beyond(0, n) {
			expect(t, "bad boxes", good(func(i *input) { i.n, i.bad = n, bad }), api.ErrNone, "Credit")
		}
	}
}

// P12.3: the span, first whether it is valid, then how wide it is.
func TestCheapestErrors(t *testing.T) {
	for counts, e := range map[api.Span]api.Errno{
		to(1, 5000): api.OK, to(1, 5001): api.ErrFull, to(1, 100000): api.ErrFull, to(95001, 100000): api.OK, to(95000, 100000): api.ErrFull,
		to(1, 1): api.OK, to(100000, 100000): api.OK, to(2, 1): api.ErrRange, to(0, 0): api.ErrRange, to(0, 1): api.ErrRange, to(0, 5001): api.ErrRange,
		to(100000, 100001): api.ErrRange, to(1, 100001): api.ErrRange, to(100001, 100001): api.ErrRange, to(100000, 1): api.ErrRange,
		to(math.MinInt, math.MaxInt): api.ErrRange, to(math.MaxInt, math.MinInt): api.ErrRange, to(math.MinInt, 5): api.ErrRange, to(5, math.MaxInt): api.ErrRange,
	} {
		expect(t, "a span", good(func(i *input) { i.counts = counts }), e, "Cheapest")
	}
}

// P12.6: how long a book is, before what is wrong with it.
func TestLongBooks(t *testing.T) {
	for many := range 9 {
		e := api.OK
		if many > 5 {
			e = api.ErrLong
		}
		for _, bad := range list(0, api.MaxPriceTotal+1) {
			if bad > 0 && e == api.OK {
				e = api.ErrForm
			}
			if many > 0 {
				expect(t, "accounts", good(func(i *input) { i.b = book(nil, slices.Repeat(list(bad), many), make([]int, many)...) }), e, aboutBooks()...)
			}
		}
		if many > 5 {
			expect(t, "just many openings", good(func(i *input) { i.b = book(nil, make([]int, many)) }), api.ErrLong, aboutBooks()...)
			expect(t, "just many closings", good(func(i *input) { i.b = book(nil, make([]int, 5), make([]int, many)...) }), api.ErrForm, aboutBooks()...)
		}
	}
	for many, e := range map[int]api.Errno{0: api.OK, 1: api.OK, 11: api.OK, 12: api.OK, 13: api.ErrLong, 14: api.ErrLong, 99: api.ErrLong} {
		expect(t, "entries", good(func(i *input) { i.b.Entries = slices.Repeat(list(entry(0, 1, 2)), many) }), e, aboutBooks()...)
		if e == api.OK {
			continue
		}
		expect(t, "bad entries", good(func(i *input) { i.b.Entries = make([]api.PriceEntry, many) }), e, aboutBooks()...)
		expect(t, "entries that cannot be read", good(func(i *input) { i.b.Entries = blots(many, 0, 1) }), e, aboutBooks()...)
		expect(t, "entries, no account", good(func(i *input) { i.b = book(make([]api.PriceEntry, many), nil) }), e, aboutBooks()...)
		expect(t, "entries, a bad total", good(func(i *input) { i.b.Entries, i.b.Closing[1] = make([]api.PriceEntry, many), -api.MaxPriceTotal-1 }), e, aboutBooks()...)
	}
}

// P12.6: the accounts, before the entries.
func TestAccountErrors(t *testing.T) {
	for _, entries := range list(nil, list(entry(0, 1, 5)), make([]api.PriceEntry, 3), blots(7, 0, 1)) {
		for name, b := range map[string]api.PriceBook{
			"no account":        book(entries, nil),
			"just a Closing":    book(entries, nil, 1),
			"no Closing":        book(entries, list(1, 2)),
			"a Closing less":    book(entries, list(1, 2), 1),
			"a Closing more":    book(entries, list(1, 2), 1, 2, 3),
			"six Closings":      book(entries, list(1, 2), 1, 2, 3, 4, 5, 6),
			"one, no Closing":   book(entries, list(1)),
			"one, two Closings": book(entries, list(1), 1, 2),
		} {
			expect(t, name, good(func(i *input) { i.b = b }), api.ErrForm, aboutBooks()...)
		}
		for place := range 3 {
			for _, total := range beyond(-api.MaxPriceTotal, api.MaxPriceTotal) {
				expect(t, "an Opening", good(func(i *input) { i.b.Entries, i.b.Opening[place] = entries, total }), api.ErrForm, aboutBooks()...)
				expect(t, "a Closing", good(func(i *input) { i.b.Entries, i.b.Closing[place] = entries, total }), api.ErrForm, aboutBooks()...)
			}
		}
	}
	for place := range 3 {
		for _, total := range inside(-api.MaxPriceTotal, api.MaxPriceTotal) {
			expect(t, "an Opening", good(func(i *input) { i.b.Opening[place] = total }), api.OK, aboutBooks()...)
			expect(t, "a Closing", good(func(i *input) { i.b.Closing[place] = total }), api.OK, aboutBooks()...)
		}
	}
}

// P12.6: each entry, before amounts that cannot be read.
func TestEntryErrors(t *testing.T) {
	var wrong []api.PriceEntry
	for _, account := range beyond(0, 2) {
		wrong = append(wrong, entry(account, 1, 5), entry(1, account, 5), entry(account, account, 5), blot(account, 0))
	}
	for account := range 3 {
		wrong = append(wrong, entry(account, account, 5), entry(account, account, 0), blot(account, account))
	}
	for _, amount := range beyond(-1, most) {
		wrong = append(wrong, entry(0, 1, amount), entry(2, 0, amount))
	}
	for _, e := range wrong {
		for place := range 3 {
			expect(t, "a bad entry", good(func(i *input) {
				i.b = with(chapterBook(25, entry(2, 1, 5)), place, e)
			}), api.ErrArg, aboutBooks()...)
			expect(t, "a bad entry among many that cannot be read", good(func(i *input) {
				i.b.Entries = append(blots(9, 0, 1), i.b.Entries...)
				i.b = with(i.b, place, e)
			}), api.ErrArg, aboutBooks()...)
		}
	}
	for _, amount := range inside(0, most) {
		for from := range 3 {
			for to := range 3 {
				if from != to {
					expect(t, "a good entry", good(func(i *input) { i.b = chapterBook(25, entry(from, to, amount)) }), api.OK, aboutBooks()...)
				}
			}
		}
	}
	// The account 2 is one of three, but not one of two.
	expect(t, "an account too many", good(func(i *input) { i.b = book(list(entry(0, 2, 1)), list(1, 1), 1, 1) }), api.ErrArg, aboutBooks()...)
	expect(t, "one account alone", good(func(i *input) { i.b = book(list(entry(0, 0, 1)), list(1), 1) }), api.ErrArg, aboutBooks()...)
}

// P12.6, P12.7, P12.8: amounts that cannot be read: none for Balance and Slips, up to six for Fill.
func TestBlotErrors(t *testing.T) {
	for many := range 13 {
		for place := range 13 - many {
			b := chapterBook(0)
			b.Entries = slices.Insert(make([]api.PriceEntry, 12-many), place, blots(many, 1, 2)...)
			for number, e := range b.Entries {
				if e.Amount == 0 {
					b = with(b, number, entry(1, 2, 0))
				}
			}
			b.Closing = list(100, -25, 25)
			read, late := api.OK, api.OK
			if many > 0 {
				read = api.ErrState
			}
			if many > 6 {
				late = api.ErrFull
			}
			expect(t, "blots", good(func(i *input) { i.b = b }), read, readBooks()...)
			expect(t, "blots", good(func(i *input) { i.b = b }), api.OK, "Book")
			got := errorsWith(t, input{b: b})["Fill"]
			if many == 0 && got != api.ErrState || many > 0 && got != late {
				t.Error(many, place, got)
			}
			// Too many blots come before that no amounts make the book balance.
			b.Closing = list(100, -25, 26)
			if got := errorsWith(t, input{b: b})["Fill"]; many <= 6 && got != api.ErrState || many > 6 && got != api.ErrFull {
				t.Error(many, place, got)
			}
		}
	}
}

// P12.8: a book that balances, before there is no way; one that cannot be read, before both.
func TestSlipErrors(t *testing.T) {
	for name, c := range map[string]struct {
		b api.PriceBook
		e api.Errno
	}{
		"one slip":               {chapterBook(20), api.OK},
		"it balances":            {chapterBook(25), api.ErrTwice},
		"it balances, no entry":  {book(nil, list(5, 6), 5, 6), api.ErrTwice},
		"no entry":               {book(nil, list(5, 6), 6, 5), api.ErrNone},
		"no way":                 {chapterBook(20, entry(0, 1, 1)), api.ErrNone},
		"it could balance":       {chapterBook(-1), api.ErrState},
		"it balances with 0":     {chapterBook(25, blot(0, 1)), api.ErrState},
		"no way, one blot":       {chapterBook(20, entry(0, 1, 1), blot(0, 2)), api.ErrState},
		"a blot of no use there": {book(list(blot(0, 1)), list(5, 6), 7, 8), api.ErrState},
	} {
		if got := errorsWith(t, input{b: c.b}); got["Slips"] != c.e {
			t.Error(name, got)
		}
	}
}

// R3: nil lists and empty ones are the same.
func TestEmpty(t *testing.T) {
	q := chapterQuote()
	for _, steps := range list(nil, []api.PriceStep{}) {
		q.Steps = steps
		if _, got, e := price.Quote(q, 1000); got != 34020 || e != api.OK {
			t.Error(got, e)
		}
	}
	for _, entries := range list(nil, []api.PriceEntry{}) {
		b := book(entries, list(5), 5)
		ends, e := price.Balance(b)
		spans, f := price.Fill(b)
		slips, g := price.Slips(b)
		if !slices.Equal(ends, list(5)) || len(spans)+len(slips) > 0 || e+f != api.OK || g != api.ErrTwice {
			t.Error(ends, spans, slips, e, f, g)
		}
	}
	for _, none := range list(nil, []int{}) {
		for _, b := range list(api.PriceBook{}, book(nil, none, none...), book([]api.PriceEntry{}, none, none...), book(nil, list(1), none...), book(nil, none, 1)) {
			expect(t, "empty", good(func(i *input) { i.b = b }), api.ErrForm, aboutBooks()...)
		}
	}
}

// spare returns a list with spare room, full the list with that room.
func spare[E any](list []E) []E { return append(make([]E, 0, 20), list...) }

func full[E any](list []E) []E { return list[:cap(list)] }

// spareInput returns valid arguments in which all lists have spare room, with an amount of the book; fullInput arguments with that room.
func spareInput(amount int) input {
	return good(func(i *input) {
		b := chapterBook(amount)
		i.q.Steps, i.b = spare(i.q.Steps), book(spare(b.Entries), spare(b.Opening), spare(b.Closing)...)
	})
}

func fullInput(i input) input {
	i.q.Steps, i.b = full(i.q.Steps), book(full(i.b.Entries), full(i.b.Opening), full(i.b.Closing)...)
	return i
}

// P2, R4: no argument is changed, nor the spare room behind it; results are new memory, and equal for equal arguments.
func TestMemory(t *testing.T) {
	for amount, want := range map[int]map[string]api.Errno{
		20: {"Balance": api.OK, "Fill": api.ErrState, "Slips": api.OK},
		25: {"Balance": api.OK, "Fill": api.OK, "Slips": api.ErrTwice},
		-1: {"Balance": api.ErrState, "Fill": api.OK, "Slips": api.ErrState},
	} {
		i, before := spareInput(amount), spareInput(amount)
		for range 2 {
			got := errorsWith(t, i)
			for f, e := range want {
				if got[f] != e {
					t.Error(amount, f, got[f])
				}
			}
			ends, _ := price.Balance(i.b)
			spans, _ := price.Fill(i.b)
			slips, _ := price.Slips(i.b)
			if amount == 20 && (!slices.Equal(ends, list(40, 40, 20)) || !slices.Equal(slips, list(slip(1, 1, 2, 25)))) {
				t.Error(ends, slips)
			}
			if amount != 20 && !slices.Equal(spans, list(to(60, 60), to(25, 25))) {
				t.Error(spans)
			}
			// What is written over here must be seen nowhere else.
			clear(full(ends))
			clear(full(spans))
			clear(full(slips))
			if !reflect.DeepEqual(fullInput(i), fullInput(before)) {
				t.Error(i)
			}
		}
	}
}

// P1: with the least and the greatest numbers, and with none at all, each function ends.
func TestAnyArguments(t *testing.T) {
	errorsWith(t, input{})
	numbers := list(math.MinInt, -1, 0, 1, 2, 900, 1000, 5000, 100000, most, api.MaxPriceTotal, math.MaxInt)
	for _, a := range numbers {
		for _, b := range numbers {
			for _, i := range list(
				input{
					q: api.PriceQuote{Area: a, Board: b, Waste: a, Tool: b, Setup: a, Run: b, Work: a, Pallet: b, Freight: a, Margin: b, Steps: list(step(a, b))},
					n: a, bad: b, money: a, counts: to(a, b), b: book(list(entry(a, b, a)), list(a, b), b, a),
				},
				good(func(i *input) {
					i.q.Area, i.q.Run, i.q.Steps, i.n, i.bad, i.counts = a, b, list(step(1, 5), step(a, b)), b, a, to(a, b)
					i.b.Entries[0], i.b.Opening[1], i.b.Closing[2] = entry(0, 1, a), b, a
				}),
				good(func(i *input) {
					i.q.Board, i.q.Pallet, i.q.Tool, i.n, i.money = a, b, b, a, b
					i.b.Entries[1], i.b.Opening[0], i.b.Closing[0] = blot(a, b), a, b
				}),
				good(func(i *input) {
					i.q.Work, i.q.Freight, i.q.Margin, i.bad, i.counts = a, b, a, b, to(900, b)
					i.b.Entries, i.b.Closing = append(i.b.Entries, blot(2, 0), blot(0, 1)), list(a, b, 100-a-b)
				}),
			) {
				errorsWith(t, i)
			}
		}
	}
}
