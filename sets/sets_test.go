package sets_test

import (
	"math"
	"slices"
	"testing"

	"testliner/sets"
)

// The numbers of a set come, ascending, the same ones each time, and a loop over them can end early.
func TestMembers(t *testing.T) {
	all := make([]int, 64)
	for number := range all {
		all[number] = number
	}
	for set, want := range map[int][]int{
		0: nil, 1: {0}, 2: {1}, 3: {0, 1}, 4: {2}, 11: {0, 1, 3}, 4095: all[:12], 4096: {12}, math.MaxInt: all[:63], math.MinInt: {63}, -1: all, -4: all[2:],
	} {
		members := sets.Members(set)
		for many := range len(want) + 2 {
			var got []int
			for number := range members {
				if len(got) == many {
					break
				}
				got = append(got, number)
			}
			if !slices.Equal(got, want[:min(many, len(want))]) {
				t.Error(set, many, got)
			}
		}
	}
}

// All sets come, those with the fewest numbers first, and of these the smaller lists.
func TestOf(t *testing.T) {
	all := [][][]int{
		{nil},
		{nil, {0}},
		{nil, {0}, {1}, {0, 1}},
		{nil, {0}, {1}, {2}, {0, 1}, {0, 2}, {1, 2}, {0, 1, 2}},
	}
	for many, want := range all {
		if got := sets.Of(many); !slices.EqualFunc(got, want, slices.Equal) {
			t.Error(many, got)
		}
	}
	ten := sets.Of(10)
	for i, list := range ten {
		if i > 0 && (len(list) < len(ten[i-1]) || len(list) == len(ten[i-1]) && slices.Compare(list, ten[i-1]) <= 0) {
			t.Error(i, list)
		}
		if len(list) > 0 && (!slices.IsSorted(list) || list[0] < 0 || list[len(list)-1] > 9 || len(slices.Compact(slices.Clone(list))) < len(list)) {
			t.Error(i, list)
		}
	}
	if len(ten) != 1024 {
		t.Error(len(ten))
	}
}

// The lists are each in memory of its own.
func TestMemory(t *testing.T) {
	all, want := sets.Of(7), sets.Of(7)
	for i, list := range all {
		if !slices.Equal(list, want[i]) {
			t.Error(i, list, want[i])
		}
		clear(list[:cap(list)])
	}
}
