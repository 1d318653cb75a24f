package roll

import (
	"iter"
	"slices"

	"testliner/api"
)

// feed is a stand with the orders for which it is used. Its methods reckon in paper, which is whole millimetres in each truth; a place on the board need not be.
type feed struct {
	api.RollStand
	orders []api.RollOrder
}

// sum, less and common return the sum of spans, one span less another one, number by number, and what is in all of some spans (its High is below its Low if that is nothing).
func sum(spans ...api.Span) api.Span {
	var all api.Span
	for _, s := range spans {
		all = api.Span{Low: all.Low + s.Low, High: all.High + s.High}
	}
	return all
}

func less(a, b api.Span) api.Span {
	return api.Span{Low: a.Low - b.High, High: a.High - b.Low}
}

func common(first api.Span, others ...api.Span) api.Span {
	all := first
	for _, s := range others {
		all = api.Span{Low: max(all.Low, s.Low), High: min(all.High, s.High)}
	}
	return all
}

// paper returns how much paper so much board takes up, rounded up.
func (f feed) paper(long int) int { return taken(f.Up, long) }

// places returns how much board is made of so much paper, rounded down.
func (f feed) places(paper api.Span) api.Span {
	return api.Span{Low: paper.Low * f.Up.Den / f.Up.Num, High: paper.High * f.Up.Den / f.Up.Num}
}

// usable returns how much of a roll can be used.
func (f feed) usable(roll int) api.Span {
	return api.Span{Low: f.Rolls[roll].Low - f.Tail, High: f.Rolls[roll].High - f.Tail}
}

// splices yields the splices, and how much paper is used up at each of them.
func (f feed) splices() iter.Seq2[int, api.Span] {
	return func(yield func(int, api.Span) bool) {
		var used api.Span
		for roll := range f.Rolls {
			used = sum(used, f.usable(roll))
			if !yield(roll, used) {
				return
			}
		}
	}
}

// end returns how much paper is used up at the end of the paper.
func (f feed) end() api.Span {
	var end api.Span
	for _, used := range f.splices() {
		end = used
	}
	return end
}

// before reports whether the paper surely ends before that of another stand.
func (f feed) before(other feed) bool {
	// Both places are multiplied by both Nums, so that they stay exact.
	return f.end().High*f.Up.Den*other.Up.Num < other.end().Low*other.Up.Den*f.Up.Num
}

// begin returns the place where an order begins; that of the number behind the last order is where all orders end.
func (f feed) begin(order int) int {
	place := 0
	for _, o := range f.orders[:order] {
		place += o.Long
	}
	return place
}

// inside reports whether a splice at which so much paper is used up lies in an order in some truth.
func (f feed) inside(order int, used api.Span) bool {
	behind := f.begin(order)*f.Up.Num/f.Up.Den + 1
	before := f.paper(f.begin(order+1)) - 1
	can := common(used, api.Span{Low: behind, High: before})
	return can.Low <= can.High
}

// lies returns for each splice but the end the orders in which it can lie.
func (f feed) lies() [][]int {
	var lies [][]int
	for splice, used := range f.splices() {
		if splice == len(f.Rolls)-1 {
			break
		}
		var in []int
		for order := range len(f.orders) {
			if f.inside(order, used) {
				in = append(in, order)
			}
		}
		lies = append(lies, in)
	}
	return lies
}

// fault returns the first order that can go wrong, and the first splice that can lie in it, or -1.
func (f feed) fault() (order, splice int, found bool) {
	lies, end := f.lies(), f.end()
	for order := range len(f.orders) {
		splice := -1
		if f.orders[order].Whole {
			splice = slices.IndexFunc(lies, func(in []int) bool { return slices.Contains(in, order) })
		}
		if splice >= 0 || end.Low < f.paper(f.begin(order+1)) {
			return order, splice, true
		}
	}
	return 0, 0, false
}

// rests returns what is left of each roll after all orders, if the paper lasts in some truth.
func (f feed) rests() []api.Span {
	all := f.paper(f.begin(len(f.orders)))
	left := func(long, used int) int { return min(long, f.Tail+max(0, used-all)) }
	var rests []api.Span
	for roll, used := range f.splices() {
		// If this roll, or one before it, is longer, no less of it is left; how long those behind it are is all one. Where the shortest ones are too short for the paper to last, Tail is left, as in a truth in which it just lasts.
		long := f.Rolls[roll]
		rests = append(rests, api.Span{Low: left(long.Low, used.Low), High: left(long.High, used.High)})
	}
	return rests
}

// with returns the feed with just some rolls, in their order.
func (f feed) with(numbers ...int) feed {
	some := f
	some.Rolls = nil
	for _, roll := range numbers {
		some.Rolls = append(some.Rolls, f.Rolls[roll])
	}
	return some
}

// plan returns the smallest of the shortest lists of rolls with which no order can go wrong.
func (f feed) plan() (numbers []int, found bool) {
	for many := range len(f.Rolls) + 1 {
		for list := range choices(many, len(f.Rolls)) {
			if _, _, wrong := f.with(list...).fault(); !wrong {
				return list, true
			}
		}
	}
	return nil, false
}

// choices yields the lists of so many of the numbers below one, each number once, that begin with some numbers: in ascending order, each list in new memory.
func choices(many, below int, start ...int) iter.Seq[[]int] {
	return func(yield func([]int) bool) {
		if len(start) == many {
			yield(start)
			return
		}
		for number := range below {
			if slices.Contains(start, number) {
				continue
			}
			// No two lists begin in the same memory.
			for list := range choices(many, below, append(slices.Clone(start), number)...) {
				if !yield(list) {
					return
				}
			}
		}
	}
}

// labels returns how long each roll can be, if some truth has all splices where they were seen.
func (f feed) labels(seen ...api.RollSeen) (long []api.Span, found bool) {
	// used[i] is how much paper can be used up before the roll i.
	used := []api.Span{{}}
	for _, at := range f.splices() {
		used = append(used, at)
	}
	for _, x := range seen {
		// A place rounded down is in a span just if it is at Low or behind it, and before High + 1.
		at := api.Span{Low: f.paper(x.Place.Low), High: f.paper(x.Place.High+1) - 1}
		used[x.Splice+1] = common(used[x.Splice+1], at)
	}
	// Each roll ties what is used up before it to what is used up after it, and nothing else does: so once forward and once back is enough.
	for roll := range f.Rolls {
		used[roll+1] = common(used[roll+1], sum(used[roll], f.usable(roll)))
	}
	for roll := len(f.Rolls) - 1; roll >= 0; roll-- {
		used[roll] = common(used[roll], less(used[roll+1], f.usable(roll)))
	}
	if slices.ContainsFunc(used, func(s api.Span) bool { return s.Low > s.High }) {
		return nil, false
	}
	tail := api.Span{Low: f.Tail, High: f.Tail}
	for roll := range f.Rolls {
		can := common(f.usable(roll), less(used[roll+1], used[roll]))
		long = append(long, sum(can, tail))
	}
	return long, true
}
