package price

import (
	"slices"

	"testliner/api"
)

// ledger is a book.
type ledger struct{ api.PriceBook }

// ends returns what each account has in the end by some entries.
func (l ledger) ends(entries ...api.PriceEntry) []int {
	ends := slices.Clone(l.Opening)
	for _, e := range entries {
		ends[e.From] -= e.Amount
		ends[e.To] += e.Amount
	}
	return ends
}

// balances reports whether the book balances by some entries.
func (l ledger) balances(entries ...api.PriceEntry) bool {
	return slices.Equal(l.ends(entries...), l.Closing)
}

// slips returns all ways in which the book, which does not balance as it is, does so with a slip in one entry, ascending.
func (l ledger) slips() []api.PriceSlip {
	var slips []api.PriceSlip
	for number, e := range l.Entries {
		for _, other := range l.instead(number) {
			if slipped(e, other) {
				slips = append(slips, api.PriceSlip{Entry: number, From: other.From, To: other.To, Amount: other.Amount})
			}
		}
	}
	return slips
}

// instead returns all entries with which, in the place of one of it, the book balances: by From, then by To.
func (l ledger) instead(number int) []api.PriceEntry {
	others := slices.Concat(l.Entries[:number], l.Entries[number+1:])
	ends := l.ends(others...)
	var instead []api.PriceEntry
	for from := range l.Opening {
		for to := range l.Opening {
			// No other amount leaves the account that pays with what it has in the end.
			e := api.PriceEntry{From: from, To: to, Amount: ends[from] - l.Closing[from]}
			if goodEntry(e, len(l.Opening)) && !blotted(e) && l.balances(append(others, e)...) {
				instead = append(instead, e)
			}
		}
	}
	return instead
}

// slipped reports whether an entry is other than another one in one thing alone, or turned around.
func slipped(e, other api.PriceEntry) bool {
	amount, from, to := e, e, e
	amount.Amount, from.From, to.To = other.Amount, other.From, other.To
	turned := api.PriceEntry{From: e.To, To: e.From, Amount: e.Amount}
	return slices.Contains([]api.PriceEntry{amount, from, to, turned}, other)
}
