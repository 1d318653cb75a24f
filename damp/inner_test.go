package damp

import (
	"slices"
	"testing"

	"testliner/api"
)

// A loop over stays can end early, and the same ones come each time that they are asked for.
func TestEarlyEnd(t *testing.T) {
	to := func(low, high int) api.Span { return api.Span{Low: low, High: high} }
	b := board{api.DampRule{Up: 10, Down: 4}, to(60, 70)}
	at := func(spans ...api.Span) []board {
		var all []board
		for _, s := range spans {
			all = append(all, board{b.DampRule, s})
		}
		return all
	}
	want := [][]board{
		at(to(60, 70), to(70, 80), to(80, 90)),
		at(to(80, 90)),
		at(to(80, 90), to(76, 86)),
	}
	stays := b.stays(api.DampStay{Room: to(90, 100), Hours: 2}, api.DampStay{}, api.DampStay{Room: to(50, 60), Hours: 1})
	for many := range 5 {
		var got [][]board
		for hours := range stays {
			if len(got) == many {
				break
			}
			got = append(got, slices.Clone(hours))
			// What is written over here is seen nowhere else.
			clear(hours[:cap(hours)])
		}
		if !slices.EqualFunc(got, want[:min(many, 3)], slices.Equal) {
			t.Error(many, got)
		}
	}
}
