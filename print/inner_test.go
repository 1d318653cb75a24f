package print

import (
	"testing"

	"testliner/api"
)

// A loop over any of the functions that are ranged over can end early.
func TestEarlyEnd(t *testing.T) {
	all := api.Span{Low: -2, High: 2}
	for by := range shifts(api.PrintRoom{X: all, Y: all}) {
		if by != (api.PrintShift{X: -2, Y: -2}) {
			t.Error(by)
		}
		break
	}
	for s, cost := range shopOf(7, 5).next([]int{6}, []int{4}, []int{0}) {
		if s != shopOf(6, 6) || cost != 1 {
			t.Error(s, cost)
		}
		break
	}
	for s, wash := range shopOf(3, 5, 6).met(2, need{7, []int{7}}) {
		if s != shopOf(2, 6, 7) || wash != 1 {
			t.Error(s, wash)
		}
		break
	}
}

// What can come next is the same each time that it is asked for.
func TestAgain(t *testing.T) {
	after := shopOf(3, 5, 6).met(2, need{7, []int{7}})
	for range 2 {
		var got []shop
		for s := range after {
			got = append(got, s)
		}
		if len(got) != 2 || got[0] != shopOf(2, 6, 7) || got[1] != shopOf(2, 5, 7) {
			t.Error(got)
		}
	}
}
