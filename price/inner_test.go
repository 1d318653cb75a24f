package price

import (
	"slices"
	"testing"

	"testliner/api"
)

// A loop over stretches can end early, and the same ones come each time that they are asked for.
func TestStretches(t *testing.T) {
	to := func(low, high int) api.Span { return api.Span{Low: low, High: high} }
	for i, c := range []struct {
		from []int
		want []api.Span
	}{
		{nil, []api.Span{to(1, 100000)}},
		{[]int{1}, []api.Span{to(1, 100000)}},
		{[]int{2}, []api.Span{to(2, 100000), to(1, 1)}},
		{[]int{1, 2, 9}, []api.Span{to(9, 100000), to(2, 8), to(1, 1)}},
		{[]int{5, 100000}, []api.Span{to(100000, 100000), to(5, 99999), to(1, 4)}},
	} {
		var q quote
		for _, from := range c.from {
			q.Steps = append(q.Steps, api.PriceStep{From: from})
		}
		for many := range len(c.want) + 2 {
			var got []api.Span
			for s := range q.stretches {
				if len(got) == many {
					break
				}
				got = append(got, s)
			}
			if !slices.Equal(got, c.want[:min(many, len(c.want))]) {
				t.Error(i, many, got)
			}
		}
	}
}

// A loop over steps can end early.
func TestSteps(t *testing.T) {
	b := trial{open: []int{0, 2, 3, 4}}
	b.Entries = []api.PriceEntry{{From: 0, To: 1, Amount: 5}, {From: 0, To: 1, Amount: 5}, {From: 1, To: 0, Amount: 0}, {From: 2, To: 0, Amount: 7}, {From: 0, To: 1, Amount: api.MaxPriceAmount}}
	for from, want := range map[int][]step{
		0: {{0, 1, 0, 1, 999995}, {0, 2, 3, -1, 7}},
		1: {{1, 0, 0, -1, 5}, {1, 0, 2, 1, 1000000}, {1, 0, 4, -1, 1000000}},
		2: {{2, 0, 3, 1, 999993}},
		3: nil,
	} {
		for many := range len(want) + 2 {
			var got []step
			for s := range b.steps(from) {
				if len(got) == many {
					break
				}
				got = append(got, s)
			}
			if !slices.Equal(got, want[:min(many, len(want))]) {
				t.Error(from, many, got)
			}
		}
	}
}
