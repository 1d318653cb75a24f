package damp

import (
	"slices"

	"testliner/api"
	"testliner/sets"
)

// store is in which rooms each pallet may lie, ascending, and how many pallets each room holds.
type store struct {
	may    [][]int
	places []int
}

// storeOf returns the store of pallets and rooms.
func storeOf(r api.DampRule, items []api.DampItem, rooms []api.DampRoom) store {
	var s store
	for _, room := range rooms {
		s.places = append(s.places, room.Places)
	}
	for _, item := range items {
		var may []int
		for number, room := range rooms {
			if _, leaves := (board{r, item.Start}).leaves(room.Moist, item.Hours, item.Limit); !leaves {
				may = append(may, number)
			}
		}
		s.may = append(s.may, may)
	}
	return s
}

// only returns the store with some of its pallets.
func (s store) only(pallets ...int) store {
	some := store{places: s.places}
	for _, pallet := range pallets {
		some.may = append(some.may, s.may[pallet])
	}
	return some
}

// lay returns the smallest list of rooms for the pallets that begins with some rooms, none of them too full.
func (s store) lay(begin ...int) (rooms []int, found bool) {
	if len(begin) == len(s.may) {
		return begin, true
	}
	for _, room := range s.may[len(begin)] {
		if !s.free(room, begin...) {
			continue
		}
		if rooms, found := s.lay(slices.Concat(begin, []int{room})...); found {
			return rooms, true
		}
	}
	return nil, false
}

// free reports whether a room has a place left beside pallets that lie in some rooms.
func (s store) free(room int, taken ...int) bool {
	left := s.places[room]
	for _, other := range taken {
		if other == room {
			left--
		}
	}
	return left > 0
}

// against returns the smallest list of the fewest pallets for which alone there are no rooms.
func (s store) against() (pallets []int, found bool) {
	for _, pallets := range sets.Of(len(s.may)) {
		if _, found := s.only(pallets...).lay(); !found {
			return pallets, true
		}
	}
	return nil, false
}
