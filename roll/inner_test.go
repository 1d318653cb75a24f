package roll

import (
	"slices"
	"testing"

	"testliner/api"
)

// A loop over either of the functions that are ranged over can end early.
func TestEarlyEnd(t *testing.T) {
	three := []api.Span{{Low: 3, High: 5}, {Low: 3, High: 3}, {Low: 9, High: 9}}
	f := feed{RollStand: api.RollStand{Up: api.Ratio{Num: 1, Den: 1}, Tail: 1, Rolls: three}}
	for splice, used := range f.splices() {
		if splice == 1 && used == (api.Span{Low: 4, High: 6}) {
			break
		}
		if splice > 0 || used != (api.Span{Low: 2, High: 4}) {
			t.Error(splice, used)
		}
	}
	many := 0
	for numbers := range choices(3, 4) {
		many++
		if many == 5 {
			if !slices.Equal(numbers, []int{0, 3, 1}) {
				t.Error(numbers)
			}
			break
		}
	}
	if many != 5 {
		t.Error(many)
	}
}

// Lists of numbers come in ascending order, each in memory of its own, and again each time that they are asked for.
func TestChoices(t *testing.T) {
	for many, want := range map[int]int{0: 1, 1: 6, 2: 30, 3: 120, 4: 360, 5: 720, 6: 720, 7: 0} {
		all := choices(many, 6)
		for range 2 {
			var lists [][]int
			for numbers := range all {
				lists = append(lists, numbers)
			}
			if len(lists) != want {
				t.Error(many, len(lists))
			}
			for i, numbers := range lists {
				if len(numbers) != many || i > 0 && slices.Compare(lists[i-1], numbers) >= 0 {
					t.Error(many, i, numbers)
				}
			}
		}
	}
}
