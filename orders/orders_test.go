package orders_test

import (
	"slices"
	"testing"

	"testliner/orders"
)

// All orders come, ascending, the same ones each time, and a loop over them can end early.
func TestOf(t *testing.T) {
	three := [][]int{{0, 1, 2}, {0, 2, 1}, {1, 0, 2}, {1, 2, 0}, {2, 0, 1}, {2, 1, 0}}
	all := orders.Of(3)
	for many := range 7 {
		var got [][]int
		for order := range all {
			if len(got) == many {
				break
			}
			got = append(got, order)
		}
		if !slices.EqualFunc(got, three[:many], slices.Equal) {
			t.Error(many, got)
		}
	}
	for many, want := range []int{1, 1, 2, 6, 24, 120, 720, 5040} {
		if got := slices.Collect(orders.Of(many)); len(got) != want || len(got[0]) != many {
			t.Error(many, len(got))
		}
	}
}

// The orders are each in memory of its own: of seven things, as in fewer steps no list would grow into spare room.
func TestMemory(t *testing.T) {
	var all, want [][]int
	for order := range orders.Of(7) {
		all, want = append(all, order), append(want, slices.Clone(order))
	}
	for i, order := range all {
		if !slices.Equal(order, want[i]) {
			t.Error(i, order, want[i])
		}
		clear(order[:cap(order)])
	}
	if len(all) != 5040 || !slices.IsSortedFunc(want, slices.Compare) {
		t.Error(len(all))
	}
}
