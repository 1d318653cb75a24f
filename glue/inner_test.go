package glue

import (
	"cmp"
	"slices"
	"testing"

	"testliner/api"
)

// A loop over places can end early, and the same places come each time that they are asked for.
func TestEarlyEnd(t *testing.T) {
	places := line{api.GluePlan{Steps: 2, Nozzles: []int{0, 3, 1}}}.places(4)
	for many := range 25 {
		var got []api.GlueLook
		for at := range places {
			if len(got) == many {
				break
			}
			got = append(got, at)
		}
		if len(got) != min(many, 24) {
			t.Error(many, got)
		}
		for i, at := range got {
			if at != (api.GlueLook{Box: i / 6, Nozzle: i / 2 % 3, Step: i % 2}) {
				t.Error(many, i, at)
			}
		}
	}
}

// less reports whether a state comes before another one.
func less(a, b []api.GlueCause) bool {
	if len(a) != len(b) {
		return len(a) < len(b)
	}
	return slices.CompareFunc(a, b, func(x, y api.GlueCause) int {
		return cmp.Or(cmp.Compare(x.Nozzle, y.Nozzle), cmp.Compare(x.Kind, y.Kind), cmp.Compare(x.From, y.From))
	}) < 0
}

// The states considered ascend, each in memory of its own, and have no more causes than there may be.
func TestStates(t *testing.T) {
	l := line{api.GluePlan{Steps: 1, Nozzles: make([]int, 6)}}
	for froms, want := range []int{1, 1 + 24 + 15*16, 1 + 48 + 15*64, 1 + 72 + 15*144, 1 + 96 + 15*256, 1 + 120 + 15*400} {
		states := l.states([]int{0, 1, 7, 8, 1000}[:froms]...)
		if len(states) != want {
			t.Error(froms, len(states))
		}
		for i, state := range states {
			if e := State(l.GluePlan, state); e != api.OK || i > 0 && !less(states[i-1], state) {
				t.Error(froms, i, state, e)
			}
		}
		for _, state := range states {
			clear(state[:cap(state)])
		}
		for i, state := range l.states([]int{0, 1, 7, 8, 1000}[:froms]...) {
			if len(state) != len(states[i]) || slices.ContainsFunc(state, func(c api.GlueCause) bool { return c.Kind == 0 }) {
				t.Error(froms, i, state)
			}
		}
	}
}
