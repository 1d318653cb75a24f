package pallet

import (
	"slices"
	"testing"

	"testliner/api"
)

// A loop over places, cuts or orders can end early, and the same ones come each time that they are asked for.
func TestEarlyEnd(t *testing.T) {
	d := deck{api.PalletBase{Long: 120, Wide: 80}, api.PalletBox{Long: 40, Wide: 30, High: 10}}
	s := sawOf(d)
	layer := slices.Collect(s.places(size{}, d.room()))
	turned := slices.Collect(d.turned(1, layer...))
	if len(layer) != 8 || len(turned) != 8 {
		t.Error(layer, turned)
	}
	for many := range 9 {
		for name, c := range map[string]struct {
			places func(func(api.PalletPlace) bool)
			want   []api.PalletPlace
		}{
			"places": {s.places(size{}, d.room()), layer},
			"turned": {d.turned(1, layer...), turned},
		} {
			var got []api.PalletPlace
			for p := range c.places {
				if len(got) == many {
					break
				}
				got = append(got, p)
			}
			if !slices.Equal(got, c.want[:many]) {
				t.Error(name, many, got)
			}
		}
	}
	for many := range 7 {
		var got [][]int
		for order := range orders(3) {
			if len(got) == many {
				break
			}
			got = append(got, order)
		}
		if want := [][]int{{0, 1, 2}, {0, 2, 1}, {1, 0, 2}, {1, 2, 0}, {2, 0, 1}, {2, 1, 0}}; !slices.EqualFunc(got, want[:many], slices.Equal) {
			t.Error(many, got)
		}
	}
}

// The orders are each in memory of its own.
func TestOrdersMemory(t *testing.T) {
	var all [][]int
	for order := range orders(4) {
		all = append(all, order)
	}
	for i, order := range all {
		if !slices.IsSortedFunc(all[i:], slices.Compare) || len(order) != 4 {
			t.Error(i, order)
		}
		clear(order[:cap(order)])
	}
	if len(all) != 24 {
		t.Error(len(all))
	}
}
