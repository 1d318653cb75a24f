package crush_test

import (
	"math/rand"

	"testliner/api"
	"testliner/crush"
)

// to returns a span, n a list, at a span of one number, box a box of a stack, sure a box that is known exactly.
func to(low, high int) api.Span { return api.Span{Low: low, High: high} }

func n(l ...int) []int { return l }

func at(number int) api.Span { return to(number, number) }

func box(low, high, light, heavy int) api.CrushLoad {
	return api.CrushLoad{Strength: to(low, high), Weight: to(light, heavy)}
}

func sure(strong, heavy int) api.CrushLoad { return box(strong, strong, heavy, heavy) }

// chapterRule returns the rule of the chapter's examples, chapterTable their table, flat a table by which nothing becomes weaker.
func chapterRule() api.CrushRule { return api.CrushRule{Tests: 5, Mean: 100, Low: 80, Bad: 1} }

func chapterTable() []api.CrushStep {
	return []api.CrushStep{{Day: 0, Keep: 1000}, {Day: 10, Keep: 800}, {Day: 30, Keep: 600}}
}

func flat() []api.CrushStep { return []api.CrushStep{{Day: 0, Keep: 1000}} }

// some returns a number from low to high, someSpan a span in them that is at most so wide.
func some(r *rand.Rand, low, high int) int { return low + r.Intn(high-low+1) }

func someSpan(r *rand.Rand, low, high, wide int) api.Span {
	a := some(r, low, high)
	return to(a, min(high, a+r.Intn(wide+1)))
}

// pick returns one of some numbers.
func pick(r *rand.Rand, numbers ...int) int { return numbers[r.Intn(len(numbers))] }

// truths returns all that can be true of a reading.
func truths(reading, off int) api.Span {
	return to(max(0, reading-off), min(api.MaxCrushRead, reading+off))
}

// someTable returns a table of small days; with many days the last ones often come after it.
func someTable(r *rand.Rand) []api.CrushStep {
	keep := []api.CrushStep{{Day: 0, Keep: some(r, 300, 1000)}}
	for range r.Intn(4) {
		before := keep[len(keep)-1]
		keep = append(keep, api.CrushStep{Day: before.Day + some(r, 1, 4), Keep: before.Keep - r.Intn(before.Keep/2+1)})
	}
	return keep
}

// someStack returns boxes that are known nearly, and that bear, or nearly bear, what lies on them.
func someStack(r *rand.Rand, most int) []api.CrushLoad {
	stack := make([]api.CrushLoad, r.Intn(most+1))
	load := 0
	for i := len(stack) - 1; i >= 0; i-- {
		stack[i] = api.CrushLoad{Strength: someSpan(r, pick(r, 0, load), 3*load+9, 2), Weight: someSpan(r, 0, 9, 2)}
		load += stack[i].Weight.High
	}
	return stack
}

// keeps returns what a table says of a day.
func keeps(keep []api.CrushStep, day int) int {
	k := -1
	for _, s := range keep {
		if s.Day <= day {
			k = s.Keep
		}
	}
	return k
}

// eachTruth calls see with all truths of a stack: the strengths and the weights.
func eachTruth(stack []api.CrushLoad, see func(strong, heavy []int)) {
	strong, heavy := make([]int, len(stack)), make([]int, len(stack))
	var fill func(i int)
	fill = func(i int) {
		if i == len(stack) {
			see(strong, heavy)
			return
		}
		for strong[i] = stack[i].Strength.Low; strong[i] <= stack[i].Strength.High; strong[i]++ {
			for heavy[i] = stack[i].Weight.Low; heavy[i] <= stack[i].Weight.High; heavy[i]++ {
				fill(i + 1)
			}
		}
	}
	fill(0)
}

// firstWeak returns in one truth the lowest box of a stack that does not hold on a day, or how many boxes there are.
func firstWeak(strong, heavy []int, keep []api.CrushStep, day int) int {
	for i := range strong {
		load := 0
		for _, w := range heavy[i+1:] {
			load += w
		}
		if load > strong[i]*keeps(keep, day)/1000 {
			return i
		}
	}
	return len(strong)
}

// stands reports whether boxes in an order surely stand through some days; that Fall tells so has tests of its own.
func stands(boxes []api.CrushLoad, order []int, keep []api.CrushStep, days int) bool {
	stack := make([]api.CrushLoad, 0, len(order))
	for _, i := range order {
		stack = append(stack, boxes[i])
	}
	_, _, e := crush.Fall(stack, keep, days)
	return e == api.ErrNone
}

// orders returns all orders of some numbers, in ascending order if the numbers ascend.
func orders(numbers []int) [][]int {
	if len(numbers) == 0 {
		return [][]int{nil}
	}
	var all [][]int
	for i, first := range numbers {
		var others []int
		others = append(append(others, numbers[:i]...), numbers[i+1:]...)
		for _, o := range orders(others) {
			all = append(all, append(n(first), o...))
		}
	}
	return all
}

// chosen returns the numbers of a set as bits.
func chosen(set int) []int {
	var list []int
	for i := 0; 1<<i <= set; i++ {
		if set>>i&1 == 1 {
			list = append(list, i)
		}
	}
	return list
}
