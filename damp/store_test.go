package damp_test

import (
	"math/rand"
	"slices"
	"testing"

	"testliner/api"
	"testliner/damp"
)

// P11.5: the chapter's examples, and the edges. Where some pallets are against it, there are no rooms for all of them.
func TestStoreExamples(t *testing.T) {
	wet := item(to(90, 95), to(70, 100), 2)
	wetter := item(to(90, 95), to(85, 100), 2)
	never := item(to(60, 70), to(61, 70), 0)
	seven := chapterItems(9, 9, 9, 9, 9, 9, 9)
	for name, c := range map[string]struct {
		items          []api.DampItem
		rooms          []api.DampRoom
		store, against []int
	}{
		"the chapter's":               {chapterItems(1, 2), chapterRooms(), list(0, 1), nil},
		"both for 2 hours":            {chapterItems(2, 2), chapterRooms(), nil, list(0, 1)},
		"the other one first":         {chapterItems(2, 1, 1), chapterRooms(), list(1, 0, 0), nil},
		"as many as there are places": {chapterItems(1, 1, 1), chapterRooms(), list(0, 0, 1), nil},
		"one more":                    {chapterItems(1, 1, 1, 1), chapterRooms(), nil, list(0, 1, 2, 3)},
		"the last two":                {append(chapterItems(1, 2, 2), wet), chapterRooms(), nil, list(1, 2)},
		"one alone before two":        {append(chapterItems(2, 2), never), chapterRooms(), nil, list(2)},
		"the first of two alone":      {append(chapterItems(1), never, never), chapterRooms(), nil, list(1)},
		"two pairs":                   {append(chapterItems(2), wet, chapterItems(2)[0], wet), list(room(90, 100, 1), room(50, 60, 1)), nil, list(0, 2)},
		"not where it begins":         {list(never), list(room(65, 65, 7)), nil, list(0)},
		"0 hours anywhere":            {chapterItems(0, 0), list(room(300, 300, 1), room(0, 0, 1)), list(0, 1), nil},
		"too dry a room":              {chapterItems(3), list(room(0, 70, 7)), nil, list(0)},
		"dry, but for 2 hours":        {chapterItems(2), list(room(0, 70, 7)), list(0), nil},
		"no pallets":                  {nil, chapterRooms(), nil, nil},
		"nothing at all":              {nil, nil, nil, nil},
		"no rooms":                    {chapterItems(0), nil, nil, list(0)},
		"no rooms for two":            {chapterItems(0, 0), nil, nil, list(0)},
		"no places":                   {chapterItems(1), list(room(60, 70, 0)), nil, list(0)},
		"a room without places":       {chapterItems(1), list(room(60, 70, 0), room(60, 70, 1)), list(1), nil},
		"seven in the last of four":   {seven, list(room(0, 0, 7), room(90, 90, 7), room(60, 70, 0), room(60, 70, 7)), list(3, 3, 3, 3, 3, 3, 3), nil},
		"six places for seven":        {seven, list(room(60, 70, 2), room(60, 70, 2), room(60, 70, 1), room(60, 70, 1)), nil, list(0, 1, 2, 3, 4, 5, 6)},
		"seven places for seven":      {seven, list(room(60, 70, 2), room(60, 70, 2), room(60, 70, 1), room(60, 70, 2)), list(0, 0, 1, 1, 2, 3, 3), nil},
		"the longest stay":            {list(item(to(0, 0), to(0, 299), 500)), list(room(0, 300, 1), room(0, 299, 1)), list(1), nil},
		"a room that others need":     {append(chapterItems(1, 1), wet, wet), list(room(90, 100, 2), room(70, 80, 2)), list(0, 0, 1, 1), nil},
		"a room that just they need":  {append(chapterItems(1, 1), wetter, wetter), list(room(90, 100, 2), room(20, 70, 2)), list(1, 1, 0, 0), nil},
	} {
		e, f := api.OK, api.ErrNone
		if len(c.against) > 0 {
			e, f = api.ErrState, api.OK
		}
		if store, got := damp.Store(chapterRule(), c.items, c.rooms); !slices.Equal(store, c.store) || got != e {
			t.Error(name, store, got)
		}
		if against, got := damp.Against(chapterRule(), c.items, c.rooms); !slices.Equal(against, c.against) || got != f {
			t.Error(name, against, got)
		}
	}
}

// someStore returns pallets and rooms; many of the pallets may lie in some of the rooms.
func someStore(r *rand.Rand, most, moist, hours int) (items []api.DampItem, rooms []api.DampRoom) {
	for range some(r, 0, most) {
		limit := someMoist(r, 0, moist)
		start := narrower(r, limit)
		if r.Intn(12) == 0 {
			start = someMoist(r, 0, moist)
		}
		items = append(items, item(start, limit, pick(r, 0, 1, some(r, 0, hours))))
		if r.Intn(4) == 0 {
			items = append(items, items[len(items)-1])
		}
	}
	items = items[:min(most, len(items))]
	for range pick(r, 0, 1, 2, 3, 4, 3, 4) {
		s := someMoist(r, 0, moist)
		rooms = append(rooms, room(s.Low, s.High, pick(r, 0, 1, 1, 2, 2, some(r, 0, 7))))
	}
	return items, rooms
}

// table returns for each pallet in which rooms it may lie, over all truths.
func table(x api.DampRule, items []api.DampItem, rooms []api.DampRoom) [][]bool {
	var may [][]bool
	for _, i := range items {
		var in []bool
		for _, h := range rooms {
			in = append(in, trueHours(x, i.Start, h.Moist, i.Limit, i.Hours) > i.Hours)
		}
		may = append(may, in)
	}
	return may
}

// stores reports whether pallets may lie in a list of rooms, and no room is too full.
func stores(may [][]bool, rooms []api.DampRoom, list []int) bool {
	left := make([]int, len(rooms))
	for number, h := range rooms {
		left[number] = h.Places
	}
	for number, h := range list {
		left[h]--
		if !may[number][h] || left[h] < 0 {
			return false
		}
	}
	return true
}

// trueStore returns the smallest of all lists of rooms in which pallets may lie, each list tried.
func trueStore(may [][]bool, rooms []api.DampRoom) (best []int, found bool) {
	if len(rooms) == 0 {
		return nil, len(may) == 0
	}
	eachList(len(may), len(rooms), func(list []int) bool {
		if stores(may, rooms, list) {
			best, found = list, true
		}
		return !found
	})
	return best, found
}

// trueAgainst returns the smallest of the shortest lists of pallets for which alone there are no rooms, each list tried.
func trueAgainst(may [][]bool, rooms []api.DampRoom) (first []int, found bool) {
	for many := range len(may) + 1 {
		eachChoice(many, len(may), nil, func(numbers []int) {
			if found {
				return
			}
			if _, does := trueStore(chosen(may, numbers), rooms); !does {
				first, found = numbers, true
			}
		})
	}
	return first, found
}

// P11.5, P11.9: against all lists of rooms for all pallets, and for all of some pallets.
func TestStore(t *testing.T) {
	r := rand.New(rand.NewSource(7))
	seen := map[int]int{}
	moved := 0
	for i := range 4000 {
		most := 4
		if i%20 == 0 {
			most = 7
		}
		x := someRule(r)
		items, rooms := someStore(r, most, pick(r, 8, 20, 40), 12)
		may := table(x, items, rooms)
		want, does := trueStore(may, rooms)
		store, e := damp.Store(x, items, rooms)
		if !slices.Equal(store, want) || (e == api.OK) != does || !does && e != api.ErrState {
			t.Fatal(x, items, rooms, store, want, e)
		}
		first, found := trueAgainst(may, rooms)
		against, e := damp.Against(x, items, rooms)
		if !slices.Equal(against, first) || (e == api.OK) != found || found == does || !found && e != api.ErrNone {
			t.Fatal(x, items, rooms, against, first, e)
		}
		seen[len(against)]++
		if slices.Max(append(store, 0)) > 0 {
			moved++
		}
	}
	if seen[0] < 500 || seen[1] < 200 || seen[2] < 100 || seen[3] < 50 || seen[4] < 20 || moved < 200 {
		t.Error(seen, moved)
	}
}

// holds reports whether by Hours each pallet may lie in the room of a list, and no room is too full.
func holds(x api.DampRule, items []api.DampItem, rooms []api.DampRoom, list []int) bool {
	many := make([]int, len(rooms))
	for number, h := range list {
		many[h]++
		i := items[number]
		hours, e := damp.Hours(x, i.Start, rooms[h].Moist, i.Limit)
		if e != api.OK || hours < i.Hours || many[h] > rooms[h].Places {
			return false
		}
	}
	return len(list) == len(items)
}

// stored checks that a list stores all pallets, and that none of them could lie in an earlier room while the others stay.
func stored(t *testing.T, x api.DampRule, items []api.DampItem, rooms []api.DampRoom, list []int) {
	t.Helper()
	if !holds(x, items, rooms, list) {
		t.Fatal(x, items, rooms, list)
	}
	for number, h := range list {
		for earlier := range h {
			other := slices.Clone(list)
			other[number] = earlier
			if holds(x, items, rooms, other) {
				t.Fatal(x, items, rooms, list, other)
			}
		}
	}
}

// P11.9: with numbers up to the limits: what Store returns stores all, for the pallets of Against there is no list, and for all of them but one there is one.
func TestStored(t *testing.T) {
	r := rand.New(rand.NewSource(8))
	done, not := 0, 0
	for range 4000 {
		x := someRule(r)
		items, rooms := someStore(r, 7, 300, 500)
		list, e := damp.Store(x, items, rooms)
		against, f := damp.Against(x, items, rooms)
		if e == api.OK {
			stored(t, x, items, rooms, list)
			done++
			if f != api.ErrNone {
				t.Fatal(x, items, rooms, f)
			}
			continue
		}
		if e != api.ErrState || f != api.OK || !slices.IsSorted(against) {
			t.Fatal(x, items, rooms, e, against, f)
		}
		if _, e := damp.Store(x, chosen(items, against), rooms); e != api.ErrState {
			t.Fatal(x, items, rooms, against, e)
		}
		for place := range against {
			others := slices.Delete(slices.Clone(against), place, place+1)
			list, e := damp.Store(x, chosen(items, others), rooms)
			if e != api.OK {
				t.Fatal(x, items, rooms, against, others, e)
			}
			stored(t, x, chosen(items, others), rooms, list)
		}
		not++
	}
	if done < 500 || not < 500 {
		t.Error(done, not)
	}
}

// P11.9: with a place more, or a wider limit, what could be stored still can, and in no greater list.
func TestStillStored(t *testing.T) {
	r := rand.New(rand.NewSource(9))
	many := 0
	for range 4000 {
		x := someRule(r)
		items, rooms := someStore(r, 7, pick(r, 20, 300), 40)
		before, e := damp.Store(x, items, rooms)
		if e != api.OK || len(items) == 0 {
			continue
		}
		many++
		wider, larger := slices.Clone(items), slices.Clone(rooms)
		limit := &wider[r.Intn(len(wider))].Limit
		*limit = to(some(r, 0, limit.Low), some(r, limit.High, 300))
		h := &larger[r.Intn(len(larger))]
		h.Places = min(7, h.Places+1)
		after, f := damp.Store(x, wider, rooms)
		then, g := damp.Store(x, items, larger)
		if f+g != api.OK || slices.Compare(after, before) > 0 || slices.Compare(then, before) > 0 {
			t.Fatal(x, items, rooms, before, wider, after, f, larger, then, g)
		}
	}
	if many < 500 {
		t.Error(many)
	}
}
