package price_test

import (
	"cmp"
	"math/big"
	"math/rand"
	"slices"

	"testliner/api"
)

// most is the greatest amount.
const most = api.MaxPriceAmount

// to returns a span, step a step, entry an entry, slip a slip, and list a list.
func to(low, high int) api.Span { return api.Span{Low: low, High: high} }

func step(from, off int) api.PriceStep { return api.PriceStep{From: from, Off: off} }

func entry(from, to, amount int) api.PriceEntry {
	return api.PriceEntry{From: from, To: to, Amount: amount}
}

func slip(number, from, to, amount int) api.PriceSlip {
	return api.PriceSlip{Entry: number, From: from, To: to, Amount: amount}
}

func list[E any](elements ...E) []E { return elements }

// chapterQuote returns the quote of the chapter's examples, plain one that costs nothing, after a change.
func chapterQuote() api.PriceQuote {
	return api.PriceQuote{
		Area: 10000, Board: 20000, Waste: 100, Tool: 5000, Setup: 300, Run: 1000, Work: 900, Pallet: 400, Freight: 50, Margin: 200,
		Steps: list(step(1000, 100)),
	}
}

func plain(change func(q *api.PriceQuote)) api.PriceQuote {
	q := api.PriceQuote{Area: 1, Run: 1, Pallet: 1}
	change(&q)
	return q
}

// chapterBook returns the book of the chapter's examples, with an amount and more entries; book a book, ending with what accounts had and have.
func chapterBook(amount int, more ...api.PriceEntry) api.PriceBook {
	return api.PriceBook{Opening: list(100, 0, 0), Closing: list(40, 35, 25), Entries: append(list(entry(0, 1, 60), entry(1, 2, amount)), more...)}
}

func book(entries []api.PriceEntry, opening []int, closing ...int) api.PriceBook {
	return api.PriceBook{Opening: opening, Closing: closing, Entries: entries}
}

// blot returns an entry whose amount cannot be read, blots so many of them.
func blot(from, to int) api.PriceEntry { return entry(from, to, api.PriceBlot) }

func blots(many, from, to int) []api.PriceEntry { return slices.Repeat(list(blot(from, to)), many) }

// some returns a number from low to high, pick one of some.
func some(r *rand.Rand, low, high int) int { return low + r.Intn(high-low+1) }

func pick[E any](r *rand.Rand, list ...E) E { return list[r.Intn(len(list))] }

// someQuote returns a quote whose steps, runs and pallets matter for numbers of boxes up to one.
func someQuote(r *rand.Rand, count int) api.PriceQuote {
	upTo := func(low, high int) int {
		return pick(r, low, high, some(r, low, high), some(r, low, min(high, low+9)))
	}
	q := api.PriceQuote{
		Area: upTo(1, 100000), Board: upTo(0, 100000), Waste: upTo(0, 500), Tool: upTo(0, 1000000), Setup: upTo(0, 1000000), Run: upTo(1, count),
		Work: upTo(0, 1000000), Pallet: upTo(1, count), Freight: upTo(0, 1000000), Margin: upTo(0, 1000),
	}
	from := map[int]bool{}
	for range some(r, 0, 6) {
		from[pick(r, 1, some(r, 1, count), some(r, 1, count), some(r, 1, 100000))] = true
	}
	for n := range from {
		q.Steps = append(q.Steps, step(n, 0))
	}
	slices.SortFunc(q.Steps, func(a, b api.PriceStep) int { return cmp.Compare(a.From, b.From) })
	for i := range q.Steps {
		q.Steps[i].Off = upTo(0, 900)
	}
	return q
}

// up returns the product of some numbers divided by others, rounded up, by numbers of any size.
func up(numbers []int, by ...int) int {
	product := func(numbers ...int) *big.Int {
		all := big.NewInt(1)
		for _, n := range numbers {
			all.Mul(all, big.NewInt(int64(n)))
		}
		return all
	}
	whole, rest := new(big.Int).DivMod(product(numbers...), product(by...), new(big.Int))
	if rest.Sign() > 0 {
		whole.Add(whole, big.NewInt(1))
	}
	if !whole.IsInt64() {
		panic("a number that does not fit")
	}
	return int(whole.Int64())
}

// trueOff returns what is taken off for so many boxes, by the chapter's words.
func trueOff(q api.PriceQuote, n int) int {
	off := 0
	for _, s := range q.Steps {
		if s.From <= n {
			off = s.Off
		}
	}
	return off
}

// trueQuote returns the parts and the price of so many boxes, by the chapter's words.
func trueQuote(q api.PriceQuote, n int) (parts api.PriceParts, price int) {
	parts = api.PriceParts{
		Board:   up(list(n, q.Area, 1000+q.Waste, q.Board), 1000, 10000000),
		Tool:    q.Tool,
		Setup:   q.Setup * up(list(n), q.Run),
		Work:    up(list(q.Work, n), 1000),
		Freight: q.Freight * up(list(n), q.Pallet),
	}
	return parts, up(list(costOf(parts), 1000+q.Margin, 1000-trueOff(q, n)), 1000000)
}

// costOf returns all parts together.
func costOf(p api.PriceParts) int { return p.Board + p.Tool + p.Setup + p.Work + p.Freight }

// ends returns what each account has in the end, by the chapter's words.
func ends(b api.PriceBook) []int {
	var ends []int
	for account, has := range b.Opening {
		for _, e := range b.Entries {
			if e.To == account {
				has += e.Amount
			}
			if e.From == account {
				has -= e.Amount
			}
		}
		ends = append(ends, has)
	}
	return ends
}

// balances reports whether a book of which all amounts are read balances.
func balances(b api.PriceBook) bool { return slices.Equal(ends(b), b.Closing) }

// with returns a book with an entry in the place of one of it.
func with(b api.PriceBook, number int, e api.PriceEntry) api.PriceBook {
	b.Entries = slices.Clone(b.Entries)
	b.Entries[number] = e
	return b
}

// blotsOf returns the numbers of the entries that cannot be read.
func blotsOf(b api.PriceBook) []int {
	var numbers []int
	for number, e := range b.Entries {
		if e.Amount == api.PriceBlot {
			numbers = append(numbers, number)
		}
	}
	return numbers
}

// read returns a book with an amount that is read.
func read(b api.PriceBook, number, amount int) api.PriceBook {
	e := b.Entries[number]
	return with(b, number, entry(e.From, e.To, amount))
}

// someEntries returns entries between so many accounts, at least two, with amounts by a function.
func someEntries(r *rand.Rand, accounts, many int, amount func() int) []api.PriceEntry {
	var entries []api.PriceEntry
	for range many {
		from := r.Intn(accounts)
		entries = append(entries, entry(from, (from+some(r, 1, accounts-1))%accounts, amount()))
	}
	return entries
}

// someBook returns a book of so many accounts, at least two, that balances by entries with such amounts.
func someBook(r *rand.Rand, accounts, many int, had, amount func() int) api.PriceBook {
	b := api.PriceBook{Entries: someEntries(r, accounts, many, amount)}
	for range accounts {
		b.Opening = append(b.Opening, had())
	}
	b.Closing = ends(b)
	return b
}

// blotted returns a book some of whose amounts cannot be read any more.
func blotted(r *rand.Rand, b api.PriceBook, many int) api.PriceBook {
	for _, number := range r.Perm(len(b.Entries))[:many] {
		b = read(b, number, api.PriceBlot)
	}
	return b
}

// corners returns amounts with which a book balances, by which all others lie between: all in which those that are neither 0 nor the greatest amount follow from what accounts have in the end.
func corners(b api.PriceBook) []api.PriceBook {
	open := blotsOf(b)
	var all []api.PriceBook
	for choice := range power(3, len(open)) {
		tried := b
		for _, number := range open {
			tried = read(tried, number, []int{0, most, api.PriceBlot}[choice%3])
			choice /= 3
		}
		if solved, found := solve(tried); found {
			all = append(all, solved)
		}
	}
	return all
}

func power(n, times int) int {
	all := 1
	for range times {
		all *= n
	}
	return all
}

// solve returns a book with the amounts that follow from what accounts have in the end, one after another.
func solve(b api.PriceBook) (solved api.PriceBook, found bool) {
	for open := blotsOf(b); len(open) > 0; open = blotsOf(b) {
		number := slices.IndexFunc(b.Entries, func(e api.PriceEntry) bool {
			return e.Amount == api.PriceBlot && (alone(b, e.From) || alone(b, e.To))
		})
		if number < 0 {
			return b, false
		}
		e := b.Entries[number]
		without := ends(read(b, number, 0))
		amount := without[e.From] - b.Closing[e.From]
		if !alone(b, e.From) {
			amount = b.Closing[e.To] - without[e.To]
		}
		if amount < 0 || amount > most {
			return b, false
		}
		b = read(b, number, amount)
	}
	return b, balances(b)
}

// alone reports whether just one entry of an account cannot be read.
func alone(b api.PriceBook, account int) bool {
	many := 0
	for _, e := range b.Entries {
		if e.Amount == api.PriceBlot && (e.From == account || e.To == account) {
			many++
		}
	}
	return many == 1
}

// spansOf returns from which least to which greatest amount each entry of some books has.
func spansOf(books []api.PriceBook) []api.Span {
	var spans []api.Span
	for i, b := range books {
		for number, e := range b.Entries {
			if i == 0 {
				spans = append(spans, to(e.Amount, e.Amount))
			}
			spans[number] = to(min(spans[number].Low, e.Amount), max(spans[number].High, e.Amount))
		}
	}
	return spans
}

// within reports whether a span lies within another one.
func within(s, other api.Span) bool { return s.Low >= other.Low && s.High <= other.High }

// trueSlips returns all ways in which a book balances with one entry that is other than it is in one thing alone, or turned around, of all those with amounts from a list, ascending.
func trueSlips(b api.PriceBook, amounts []int) []api.PriceSlip {
	var slips []api.PriceSlip
	for number, e := range b.Entries {
		for from := range b.Opening {
			for to := range b.Opening {
				for _, amount := range amounts {
					turned := from == e.To && to == e.From && amount == e.Amount
					if from == to || things(e, entry(from, to, amount)) != 1 && !turned {
						continue
					}
					if balances(with(b, number, entry(from, to, amount))) {
						slips = append(slips, slip(number, from, to, amount))
					}
				}
			}
		}
	}
	return slips
}

// things returns in how many things two entries differ.
func things(a, b api.PriceEntry) int {
	many := 0
	for _, differ := range list(a.From != b.From, a.To != b.To, a.Amount != b.Amount) {
		if differ {
			many++
		}
	}
	return many
}
