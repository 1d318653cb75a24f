package pallet

import (
	"slices"
	"testing"

	"testliner/api"
)

// A loop over places or cuts can end early, and the same ones come each time that they are asked for.
func TestEarlyEnd(t *testing.T) {
	d := deck{api.PalletBase{Long: 120, Wide: 80}, api.PalletBox{Long: 40, Wide: 30, High: 10}}
	s := sawOf(d)
	layer := slices.Collect(s.places(size{}, d.room()))
	turned := slices.Collect(d.turned(1, layer...))
	if len(layer) != 8 || len(turned) != 8 {
		t.Error(layer, turned)
	}
	for many := range 9 {
		for name, c := range map[string]struct {
			places func(func(api.PalletPlace) bool)
			want   []api.PalletPlace
		}{
			"places": {s.places(size{}, d.room()), layer},
			"turned": {d.turned(1, layer...), turned},
		} {
			var got []api.PalletPlace
			for p := range c.places {
				if len(got) == many {
					break
				}
				got = append(got, p)
			}
			if !slices.Equal(got, c.want[:many]) {
				t.Error(name, many, got)
			}
		}
	}
}
