package price

import (
	"iter"
	"slices"

	"testliner/api"
)

// trial is a book with amounts that are tried in its open entries, where they cannot be read.
type trial struct {
	ledger
	open []int
}

// step is how money can go from one account to another one: if the amount of an open entry is more (by 1) or less (by -1), by so much at most.
type step struct{ from, to, entry, by, room int }

// blots returns the entries whose amounts cannot be read.
func (l ledger) blots() []int {
	var blots []int
	for number, e := range l.Entries {
		if blotted(e) {
			blots = append(blots, number)
		}
	}
	return blots
}

// read returns the book as it is if an amount is read.
func (l ledger) read(number, amount int) ledger {
	l.Entries = slices.Clone(l.Entries)
	l.Entries[number].Amount = amount
	return l
}

// fill returns what each amount can be, if the book balances with some amounts.
func (l ledger) fill() (spans []api.Span, found bool) {
	if l.astray() > 0 {
		return nil, false
	}
	for number, e := range l.Entries {
		can := api.Span{Low: e.Amount, High: e.Amount}
		if blotted(e) {
			// Each farthing below the least amount, or above the greatest one, with which the book balances leaves one more astray.
			can.Low = l.read(number, 0).astray()
			can.High = api.MaxPriceAmount - l.read(number, api.MaxPriceAmount).astray()
		}
		spans = append(spans, can)
	}
	return spans, true
}

// astray returns how much accounts have too much, or too little, in the end, whichever is more, by the amounts for which that is least.
func (l ledger) astray() int {
	t := l.settled()
	much, little := 0, 0
	for _, lack := range t.lacks() {
		much += max(0, -lack)
		little += max(0, lack)
	}
	return max(much, little)
}

// settled returns the book with amounts by which as much as can be of what accounts have too much comes to those that lack it.
func (l ledger) settled() trial {
	t := trial{l, l.blots()}
	for _, number := range t.open {
		t.ledger = t.read(number, 0)
	}
	for from := range t.Opening {
		for to := range t.Opening {
			for t.send(from, to) {
			}
		}
	}
	return t
}

// lacks returns what each account lacks in the end: below 0 if it has too much.
func (t trial) lacks() []int {
	lacks := t.ends(t.Entries...)
	for account, has := range lacks {
		lacks[account] = t.Closing[account] - has
	}
	return lacks
}

// send sends as much as can be of what an account has too much to one that lacks it, on one shortest way, and reports whether that was anything.
func (t trial) send(from, to int) bool {
	lacks, ways := t.lacks(), t.ways(from)
	much := min(-lacks[from], lacks[to])
	if _, found := ways[to]; !found || much <= 0 {
		return false
	}
	for at := to; at != from; at = ways[at].from {
		much = min(much, ways[at].room)
	}
	for at := to; at != from; at = ways[at].from {
		t.Entries[ways[at].entry].Amount += ways[at].by * much
	}
	return true
}

// ways returns for each account to which money can come from one the last step on a shortest way.
func (t trial) ways(from int) map[int]step {
	ways := map[int]step{from: {}}
	for next := []int{from}; len(next) > 0; next = next[1:] {
		for s := range t.steps(next[0]) {
			if _, been := ways[s.to]; !been {
				ways[s.to] = s
				next = append(next, s.to)
			}
		}
	}
	return ways
}

// steps yields all steps from an account.
func (t trial) steps(from int) iter.Seq[step] {
	return func(yield func(step) bool) {
		for _, number := range t.open {
			e := t.Entries[number]
			more := step{e.From, e.To, number, 1, api.MaxPriceAmount - e.Amount}
			less := step{e.To, e.From, number, -1, e.Amount}
			for _, s := range []step{more, less} {
				if s.from == from && s.room > 0 && !yield(s) {
					return
				}
			}
		}
	}
}
