package damp_test

import (
	"math"
	"reflect"
	"slices"
	"testing"

	"testliner/api"
	"testliner/damp"
)

// input is an argument for all functions.
type input struct {
	r                         api.DampRule
	start, room, limit, moist api.Span
	stays                     []api.DampStay
	table                     []api.DampStep
	items                     []api.DampItem
	rooms                     []api.DampRoom
	complaint
}

// good returns arguments with which each function finds something but Against, but for what change does.
func good(change func(i *input)) input {
	i := input{
		r: chapterRule(), start: to(60, 70), room: to(90, 100), limit: to(50, 85), moist: to(70, 80),
		stays: chapterStays(), table: chapterTable(), items: chapterItems(1, 2), rooms: chapterRooms(),
		complaint: complaint{chapterCauses(0), 5, 0},
	}
	change(&i)
	return i
}

// The functions, by what they are about, and all of them.
func aboutStays() []string      { return list("Check", "After", "Peak") }
func aboutStores() []string     { return list("Store", "Against") }
func aboutComplaints() []string { return list("Explain", "Surely", "Look") }

func all() []string {
	return slices.Concat(aboutStays(), list("Hours", "Keep"), aboutStores(), aboutComplaints())
}

// errorsWith returns the errors of all functions, and checks that all else that they return is zero if there is one.
func errorsWith(t *testing.T, i input) map[string]api.Errno {
	t.Helper()
	got := map[string]api.Errno{}
	add := func(name string, e api.Errno, results ...any) {
		got[name] = e
		for _, y := range results {
			v := reflect.ValueOf(y)
			if e != api.OK && !v.IsZero() && !(v.Kind() == reflect.Slice && v.Len() == 0) {
				t.Errorf("%s: %d with %v", name, e, y)
			}
		}
	}
	add("Check", damp.Check(i.r, i.start, i.stays))
	after, e := damp.After(i.r, i.start, i.stays)
	add("After", e, after)
	moist, hour, e := damp.Peak(i.r, i.start, i.stays)
	add("Peak", e, moist, hour)
	hours, e := damp.Hours(i.r, i.start, i.room, i.limit)
	add("Hours", e, hours)
	keep, e := damp.Keep(i.table, i.moist)
	add("Keep", e, keep)
	store, e := damp.Store(i.r, i.items, i.rooms)
	add("Store", e, store)
	against, e := damp.Against(i.r, i.items, i.rooms)
	add("Against", e, against)
	sets, e := damp.Explain(i.causes, i.seen, i.missing)
	add("Explain", e, sets)
	surely, e := damp.Surely(i.causes, i.seen, i.missing)
	add("Surely", e, surely)
	sign, left, e := damp.Look(i.causes, i.seen, i.missing)
	add("Look", e, sign, left)
	return got
}

// expect checks that some functions have an error. Without one, Against and Look may have found nothing.
func expect(t *testing.T, name string, i input, e api.Errno, functions ...string) {
	t.Helper()
	got := errorsWith(t, i)
	for _, f := range functions {
		nothing := got[f] == api.ErrNone && (f == "Against" || f == "Look")
		if got[f] != e && (e != api.OK || !nothing) {
			t.Errorf("%s: %s: %d, want %d", name, f, got[f], e)
		}
	}
}

// badMoists are spans that are not what can be known of a moisture, goodMoists such as are.
func badMoists() []api.Span {
	return list(
		to(-1, 0), to(-1, -1), to(0, 301), to(301, 301), to(300, 301), to(1, 0), to(300, 299), to(math.MinInt, 0), to(0, math.MaxInt),
		to(math.MinInt, math.MaxInt), to(math.MaxInt, math.MinInt), to(math.MaxInt, math.MaxInt), to(math.MinInt, math.MinInt), to(0, -1), to(301, 0),
	)
}

func goodMoists() []api.Span {
	return list(to(0, 0), to(0, 300), to(300, 300), to(0, 1), to(299, 300), to(150, 150))
}

// With nothing wrong just Against has an error, as all pallets can be stored.
func TestNoErrors(t *testing.T) {
	for f, e := range errorsWith(t, good(func(*input) {})) {
		if (e == api.OK) == (f == "Against") || f == "Against" && e != api.ErrNone {
			t.Error(f, e)
		}
	}
}

// P11.1, P11.3, P11.5: the rule, before all else.
func TestRuleErrors(t *testing.T) {
	ruled := slices.Concat(aboutStays(), list("Hours"), aboutStores())
	for rate, e := range map[int]api.Errno{math.MinInt: api.ErrArg, -1: api.ErrArg, 0: api.OK, 1: api.OK, 49: api.OK, 50: api.OK, 51: api.ErrArg, math.MaxInt: api.ErrArg} {
		for _, r := range list(rule(rate, 4), rule(10, rate), rule(rate, rate)) {
			still := func(i *input) { i.r, i.items = r, chapterItems(0, 0) }
			expect(t, "a rate", good(still), e, ruled...)
			if e == api.OK {
				continue
			}
			worse := good(still)
			worse.start, worse.stays = to(1, 0), make([]api.DampStay, 11)
			worse.items, worse.rooms = make([]api.DampItem, 8), make([]api.DampRoom, 5)
			expect(t, "a rate, and all else", worse, e, ruled...)
			worse.room, worse.limit = to(1, 0), to(1, 0)
			worse.stays[0].Hours, worse.items[0].Hours, worse.rooms[0].Places = -1, -1, -1
			expect(t, "a rate, and all else", worse, e, ruled...)
		}
	}
}

// P11.1: the moisture at the beginning, before the stays.
func TestStartErrors(t *testing.T) {
	for _, s := range badMoists() {
		expect(t, "a bad start", good(func(i *input) { i.start = s }), api.ErrRange, append(aboutStays(), "Hours")...)
		expect(t, "a bad start and many stays", good(func(i *input) { i.start, i.stays = s, make([]api.DampStay, 11) }), api.ErrRange, append(aboutStays(), "Hours")...)
		expect(t, "a bad start and a bad stay", good(func(i *input) { i.start, i.stays = s, list(stay(1, 0, -1)) }), api.ErrRange, append(aboutStays(), "Hours")...)
	}
	for _, s := range goodMoists() {
		expect(t, "a good start", good(func(i *input) { i.start, i.limit = s, to(0, 300) }), api.OK, all()...)
	}
}

// P11.1: the stays, their number first.
func TestStayErrors(t *testing.T) {
	for many, e := range map[int]api.Errno{0: api.OK, 1: api.OK, 9: api.OK, 10: api.OK, 11: api.ErrLong, 12: api.ErrLong, 99: api.ErrLong} {
		expect(t, "many stays", good(func(i *input) { i.stays = make([]api.DampStay, many) }), e, aboutStays()...)
		if many > 0 && many <= 10 {
			e = api.ErrForm
		}
		for place := range many {
			expect(t, "many stays, one of them bad", good(func(i *input) {
				i.stays = make([]api.DampStay, many)
				i.stays[place].Hours = 501
			}), e, aboutStays()...)
		}
	}
	for hours, e := range hourErrors() {
		expect(t, "hours of a stay", good(func(i *input) { i.stays[0].Hours = hours }), e, aboutStays()...)
		expect(t, "hours of the last stay", good(func(i *input) { i.stays[1].Hours = hours }), e, aboutStays()...)
	}
	for _, s := range badMoists() {
		for place := range 2 {
			expect(t, "a stay in a bad room", good(func(i *input) { i.stays[place].Room = s }), api.ErrForm, aboutStays()...)
			expect(t, "no hours in a bad room", good(func(i *input) { i.stays[place] = api.DampStay{Room: s} }), api.ErrForm, aboutStays()...)
		}
	}
	for _, s := range goodMoists() {
		expect(t, "a stay in a good room", good(func(i *input) { i.stays[1].Room = s }), api.OK, aboutStays()...)
	}
}

// hourErrors are hours of a stay, or of a pallet.
func hourErrors() map[int]api.Errno {
	return map[int]api.Errno{math.MinInt: api.ErrForm, -1: api.ErrForm, 0: api.OK, 1: api.OK, 499: api.OK, 500: api.OK, 501: api.ErrForm, math.MaxInt: api.ErrForm}
}

// P11.3: the room and the limit; a bad one comes before a limit that is left at once.
func TestHoursErrors(t *testing.T) {
	for _, s := range badMoists() {
		expect(t, "a bad room", good(func(i *input) { i.room = s }), api.ErrRange, "Hours")
		expect(t, "a bad room, a limit that is left", good(func(i *input) { i.room, i.limit = s, to(0, 0) }), api.ErrRange, "Hours")
		expect(t, "a bad limit", good(func(i *input) { i.limit = s }), api.ErrRange, "Hours")
	}
	for _, s := range goodMoists() {
		expect(t, "a good room", good(func(i *input) { i.room = s }), api.OK, "Hours")
	}
	expect(t, "left below", good(func(i *input) { i.limit = to(61, 300) }), api.ErrState, "Hours")
	expect(t, "left above", good(func(i *input) { i.limit = to(0, 69) }), api.ErrState, "Hours")
	expect(t, "just not left", good(func(i *input) { i.limit = to(60, 70) }), api.OK, "Hours")
}

// P11.4: the table, before the moisture.
func TestKeepErrors(t *testing.T) {
	eleven := list(step(0, 9))
	for n := 1; n <= 10; n++ {
		eleven = append(eleven, step(n, 9))
	}
	for name, table := range map[string][]api.DampStep{
		"no steps":            nil,
		"eleven steps":        eleven,
		"a first of 1":        list(step(1, 9)),
		"a first of -1":       list(step(-1, 9), step(0, 9)),
		"a first of 300":      list(step(300, 9)),
		"twice 0":             list(step(0, 9), step(0, 9)),
		"twice 5":             list(step(0, 9), step(5, 9), step(5, 8)),
		"descending":          list(step(0, 9), step(5, 9), step(4, 8)),
		"back to 0":           list(step(0, 9), step(5, 9), step(0, 8)),
		"301":                 list(step(0, 9), step(301, 9)),
		"the greatest":        list(step(0, 9), step(math.MaxInt, 9)),
		"the least":           list(step(0, 9), step(math.MinInt, 9)),
		"a Keep of 1001":      list(step(0, 1001)),
		"a Keep of -1":        list(step(0, -1)),
		"a last Keep of -1":   list(step(0, 9), step(5, -1)),
		"the greatest Keep":   list(step(0, math.MaxInt)),
		"the least Keep":      list(step(0, 9), step(5, math.MinInt)),
		"a greater Keep":      list(step(0, 9), step(5, 10)),
		"a greater last Keep": list(step(0, 9), step(5, 7), step(6, 8)),
	} {
		expect(t, name, good(func(i *input) { i.table = table }), api.ErrForm, "Keep")
		expect(t, name+", a bad moisture", good(func(i *input) { i.table, i.moist = table, to(1, 0) }), api.ErrForm, "Keep")
	}
	for name, table := range map[string][]api.DampStep{
		"one step":             list(step(0, 1000)),
		"a Keep of 0":          list(step(0, 0)),
		"ten steps":            eleven[:10],
		"up to 300":            list(step(0, 1000), step(300, 0)),
		"one after another":    list(step(0, 1000), step(1, 1000), step(2, 999)),
		"far from one another": list(step(0, 7), step(299, 7), step(300, 7)),
	} {
		expect(t, name, good(func(i *input) { i.table = table }), api.OK, "Keep")
		for _, s := range badMoists() {
			expect(t, name+", a bad moisture", good(func(i *input) { i.table, i.moist = table, s }), api.ErrRange, "Keep")
		}
		for _, s := range goodMoists() {
			expect(t, name+", a good moisture", good(func(i *input) { i.table, i.moist = table, s }), api.OK, "Keep")
		}
	}
}

// P11.5: the numbers of pallets and rooms, before what is wrong with them.
func TestManyStored(t *testing.T) {
	for items, e := range map[int]api.Errno{0: api.OK, 1: api.OK, 6: api.OK, 7: api.OK, 8: api.ErrLong, 9: api.ErrLong, 99: api.ErrLong} {
		expect(t, "many pallets", good(func(i *input) { i.items, i.rooms = make([]api.DampItem, items), list(room(0, 0, 7)) }), e, aboutStores()...)
		if e != api.OK {
			expect(t, "many pallets, a bad room", good(func(i *input) { i.items, i.rooms = make([]api.DampItem, items), list(room(1, 0, 8)) }), e, aboutStores()...)
			expect(t, "many pallets, a bad one", good(func(i *input) { i.items = append(make([]api.DampItem, items), item(to(1, 0), to(1, 0), -1)) }), e, aboutStores()...)
		}
	}
	for rooms, e := range map[int]api.Errno{1: api.OK, 2: api.OK, 3: api.OK, 4: api.OK, 5: api.ErrLong, 6: api.ErrLong, 99: api.ErrLong} {
		expect(t, "many rooms", good(func(i *input) { i.items, i.rooms = chapterItems(0, 0), slices.Repeat(list(room(0, 0, 2)), rooms) }), e, aboutStores()...)
		if e != api.OK {
			expect(t, "many rooms, a bad pallet", good(func(i *input) { i.items[0].Hours, i.rooms = -1, make([]api.DampRoom, rooms) }), e, aboutStores()...)
			expect(t, "many rooms, a bad one", good(func(i *input) { i.rooms = append(make([]api.DampRoom, rooms), room(1, 0, -1)) }), e, aboutStores()...)
		}
	}
}

// P11.5: what is wrong with a pallet, or with a room, before whether there is a list.
func TestStoreErrors(t *testing.T) {
	for _, s := range badMoists() {
		for place := range 2 {
			expect(t, "a bad start", good(func(i *input) { i.items[place].Start = s }), api.ErrForm, aboutStores()...)
			expect(t, "a bad limit", good(func(i *input) { i.items[place].Limit = s }), api.ErrForm, aboutStores()...)
			expect(t, "a bad limit without rooms", good(func(i *input) { i.items[place].Limit, i.rooms = s, nil }), api.ErrForm, aboutStores()...)
			expect(t, "a bad room", good(func(i *input) { i.rooms[place].Moist = s }), api.ErrForm, aboutStores()...)
			expect(t, "a bad room without pallets", good(func(i *input) { i.items, i.rooms[place].Moist = nil, s }), api.ErrForm, aboutStores()...)
			expect(t, "a bad room without places", good(func(i *input) { i.rooms = append(i.rooms, api.DampRoom{Moist: s}) }), api.ErrForm, aboutStores()...)
		}
	}
	for _, s := range goodMoists() {
		expect(t, "a good pallet", good(func(i *input) { i.items[0] = item(s, s, 0) }), api.OK, aboutStores()...)
		expect(t, "a good room", good(func(i *input) { i.rooms, i.items = append(chapterRooms(), room(s.Low, s.High, 0)), chapterItems(1, 2) }), api.OK, aboutStores()...)
	}
	for hours, e := range hourErrors() {
		for place := range 2 {
			expect(t, "hours", good(func(i *input) { i.items[place].Hours, i.rooms = hours, list(room(60, 70, 2)) }), e, aboutStores()...)
		}
	}
	for places, e := range map[int]api.Errno{math.MinInt: api.ErrForm, -1: api.ErrForm, 0: api.OK, 1: api.OK, 6: api.OK, 7: api.OK, 8: api.ErrForm, math.MaxInt: api.ErrForm} {
		for place := range 3 {
			expect(t, "places", good(func(i *input) {
				i.rooms = slices.Repeat(list(room(60, 70, 2)), 3)
				i.rooms[place].Places = places
			}), e, aboutStores()...)
		}
	}
	// One of both always has an error.
	for hours, e := range map[int][]api.Errno{1: {api.OK, api.ErrNone}, 2: {api.ErrState, api.OK}} {
		got := errorsWith(t, good(func(i *input) { i.items = chapterItems(hours, 2) }))
		if got["Store"] != e[0] || got["Against"] != e[1] {
			t.Error(hours, got)
		}
	}
}

// P11.6, P11.7: the causes, their number first, before the signs.
func TestCauseErrors(t *testing.T) {
	for many, e := range map[int]api.Errno{0: api.OK, 1: api.OK, 9: api.OK, 10: api.OK, 11: api.ErrLong, 12: api.ErrLong, 99: api.ErrLong} {
		expect(t, "many causes", good(func(i *input) { i.complaint = complaint{slices.Repeat(list(cause(4095, 4095)), many), 0, 0} }), e, aboutComplaints()...)
		if many > 0 && e == api.OK {
			e = api.ErrForm
		}
		for _, c := range badCauses() {
			if many == 0 {
				continue
			}
			for _, found := range list([]int{0, 0}, []int{-1, 0}, []int{0, 4096}, []int{1, 1}) {
				expect(t, "bad causes", good(func(i *input) { i.complaint = complaint{slices.Repeat(list(c), many), found[0], found[1]} }), e, aboutComplaints()...)
			}
			expect(t, "a bad last cause", good(func(i *input) {
				i.complaint = complaint{append(slices.Repeat(list(cause(0, 0)), many-1), c), 0, 0}
			}), e, aboutComplaints()...)
		}
	}
	for _, sum := range list(0, 1, 2048, 4094, 4095) {
		for _, c := range list(cause(sum, 0), cause(0, sum), cause(sum, sum)) {
			expect(t, "a good cause", good(func(i *input) { i.causes = append(i.causes, c) }), api.OK, aboutComplaints()...)
		}
	}
}

// badCauses are causes with numbers that are no sums of signs.
func badCauses() []api.DampCause {
	var causes []api.DampCause
	for _, sum := range badSums() {
		causes = append(causes, cause(sum, 0), cause(0, sum), cause(sum, sum))
	}
	return causes
}

func badSums() []int { return list(math.MinInt, -4095, -1, 4096, 4097, 8192, math.MaxInt) }

// P11.6, P11.7: what was found: no sums of signs before signs that are in both.
func TestFoundErrors(t *testing.T) {
	found := func(seen, missing int) input {
		return good(func(i *input) { i.causes, i.seen, i.missing = append(i.causes, cause(0, 4095)), seen, missing })
	}
	for _, sum := range badSums() {
		for _, other := range list(0, 1, 4095, sum, -1, 4096) {
			expect(t, "bad signs that were seen", found(sum, other), api.ErrRange, aboutComplaints()...)
			expect(t, "bad signs that are missing", found(other, sum), api.ErrRange, aboutComplaints()...)
		}
	}
	for sign := range 12 {
		for _, more := range list(0, 1, 2048, 4095) {
			expect(t, "a sign in both", found(1<<sign, 1<<sign|more), api.ErrTwice, aboutComplaints()...)
			expect(t, "a sign in both", found(1<<sign|more, 1<<sign), api.ErrTwice, aboutComplaints()...)
		}
		expect(t, "each sign in one", found(1<<sign, 4095&^(1<<sign)), api.OK, aboutComplaints()...)
		expect(t, "each sign in one", found(4095&^(1<<sign), 1<<sign), api.OK, aboutComplaints()...)
	}
}

// P11.6, P11.7: no set explains what was found, or too many do.
func TestSetErrors(t *testing.T) {
	for name, c := range map[string]struct {
		complaint
		e api.Errno
	}{
		"no causes":               {complaint{nil, 1, 0}, api.ErrState},
		"a sign that none shows":  {complaint{chapterCauses(7), 21, 0}, api.ErrState},
		"the one is missing":      {complaint{list(cause(3, 0)), 1, 2}, api.ErrState},
		"one shows what is not":   {complaint{chapterCauses(0), 6, 1}, api.ErrState},
		"two by two by two by 4":  {complaint{slices.Concat(alike(2, 1, 2, 4), alike(4, 8)), 15, 0}, api.ErrFull},
		"31 sets":                 {complaint{alike(1, 1, 23, 24, 8, 52, 52, 26, 35, 8, 52), 63, 0}, api.ErrFull},
		"30 sets":                 {complaint{slices.Concat(alike(5, 1), alike(3, 2), alike(2, 4)), 7, 0}, api.OK},
		"36 sets":                 {complaint{slices.Concat(alike(4, 1), alike(3, 2, 4)), 7, 0}, api.ErrFull},
		"32 sets":                 {complaint{alike(2, 1, 2, 4, 8, 16), 31, 0}, api.ErrFull},
		"32 sets, one is missing": {complaint{alike(2, 1, 2, 4, 8, 16), 31, 4064}, api.ErrFull},
		"nothing was seen":        {complaint{alike(1, 1, 2, 4, 8, 16, 32), 0, 63}, api.OK},
	} {
		expect(t, name, good(func(i *input) { i.complaint = c.complaint }), c.e, aboutComplaints()...)
	}
	if sets := trueSets(complaint{alike(1, 1, 23, 24, 8, 52, 52, 26, 35, 8, 52), 63, 0}); len(sets) != 31 {
		t.Error(len(sets))
	}
}

// P11.7: there is nothing to look for.
func TestLookErrors(t *testing.T) {
	for name, c := range map[string]struct {
		complaint
		e api.Errno
	}{
		"one set":                  {complaint{chapterCauses(7), 5, 8}, api.ErrNone},
		"the empty set":            {complaint{chapterCauses(7), 0, 0}, api.ErrNone},
		"all but the sign 3":       {complaint{chapterCauses(0), 5, 4082}, api.OK},
		"all was looked for":       {complaint{list(cause(1, 0), cause(1, 4094)), 1, 4094}, api.ErrNone},
		"two that are alike":       {complaint{list(cause(1, 6), cause(1, 6)), 1, 0}, api.ErrNone},
		"they may differ":          {complaint{list(cause(1, 2), cause(1, 4)), 1, 0}, api.ErrNone},
		"one must, one may":        {complaint{list(cause(1, 2), cause(3, 0)), 1, 0}, api.ErrNone},
		"one must, one cannot":     {complaint{list(cause(1, 0), cause(3, 0)), 1, 0}, api.OK},
		"one must, but was missed": {complaint{list(cause(1, 0), cause(3, 0), cause(1, 0)), 1, 2}, api.ErrNone},
	} {
		if got := errorsWith(t, good(func(i *input) { i.complaint = c.complaint })); got["Look"] != c.e || got["Explain"]+got["Surely"] != api.OK {
			t.Error(name, got)
		}
	}
}

// R3: nil lists and empty ones are the same.
func TestEmpty(t *testing.T) {
	for _, n := range list(0, 5) {
		i := good(func(i *input) { i.stays, i.items, i.rooms, i.causes, i.seen, i.missing = nil, nil, nil, nil, 0, n })
		if n > 0 {
			i.stays, i.items, i.rooms, i.causes = []api.DampStay{}, []api.DampItem{}, []api.DampRoom{}, []api.DampCause{}
		}
		after, e := damp.After(i.r, i.start, i.stays)
		peak, hour, f := damp.Peak(i.r, i.start, i.stays)
		store, g := damp.Store(i.r, i.items, i.rooms)
		if len(after)+hour+len(store) > 0 || peak != 70 || e+f+g != api.OK {
			t.Error(after, peak, hour, store, e, f, g)
		}
		sets, e := damp.Explain(i.causes, i.seen, i.missing)
		surely, f := damp.Surely(i.causes, i.seen, i.missing)
		if len(sets) != 1 || len(sets[0])+len(surely) > 0 || e+f != api.OK {
			t.Error(sets, surely, e, f)
		}
		if got := errorsWith(t, i); got["Check"] != api.OK || got["Against"] != api.ErrNone || got["Look"] != api.ErrNone {
			t.Error(got)
		}
		if _, e := damp.Store(i.r, chapterItems(0), i.rooms); e != api.ErrState {
			t.Error(e)
		}
	}
	if e := errorsWith(t, good(func(i *input) { i.table = []api.DampStep{} }))["Keep"]; e != api.ErrForm {
		t.Error(e)
	}
}

// spare returns a list with spare room, full the list with that room.
func spare[E any](list []E) []E { return append(make([]E, 0, 20), list...) }

func full[E any](list []E) []E { return list[:cap(list)] }

// spareInput returns valid arguments in which all lists have spare room, with pallets for so many hours; fullInput arguments with that room.
func spareInput(hours int) input {
	return good(func(i *input) {
		i.stays, i.table, i.items, i.rooms, i.causes = spare(i.stays), spare(i.table), spare(chapterItems(hours, 2)), spare(i.rooms), spare(i.causes)
	})
}

func fullInput(i input) input {
	i.stays, i.table, i.items, i.rooms, i.causes = full(i.stays), full(i.table), full(i.items), full(i.rooms), full(i.causes)
	return i
}

// P2, R4: no argument is changed, nor the spare room behind it; results are new memory, and equal for equal arguments.
func TestMemory(t *testing.T) {
	for _, hours := range list(1, 2) {
		i, before := spareInput(hours), spareInput(hours)
		for range 2 {
			errorsWith(t, i)
			after, e := damp.After(i.r, i.start, i.stays)
			sets, f := damp.Explain(i.causes, i.seen, i.missing)
			surely, g := damp.Surely(i.causes, i.seen, i.missing)
			if !slices.Equal(after, list(to(80, 90), to(60, 70))) || !same(sets, list(list(0, 1), list(1, 3))) || !slices.Equal(surely, list(1)) || e+f+g != api.OK {
				t.Error(after, sets, surely, e, f, g)
			}
			store, e := damp.Store(i.r, i.items, i.rooms)
			against, f := damp.Against(i.r, i.items, i.rooms)
			if hours == 1 && (!slices.Equal(store, list(0, 1)) || e != api.OK) || hours == 2 && (!slices.Equal(against, list(0, 1)) || f != api.OK) {
				t.Error(store, against, e, f)
			}
			// What is written over here must be seen nowhere else, neither in arguments nor in other parts of results.
			for number, want := range list(list(0, 1), list(1, 3)) {
				if !slices.Equal(sets[number], want) {
					t.Error(number, sets[number])
				}
				clear(full(sets[number]))
			}
			clear(full(sets))
			clear(full(after))
			for _, numbers := range list(surely, store, against) {
				clear(full(numbers))
			}
			if !reflect.DeepEqual(fullInput(i), fullInput(before)) {
				t.Error(i)
			}
		}
	}
}

// P1: with the least and the greatest numbers, and with none at all, each function ends.
func TestAnyArguments(t *testing.T) {
	errorsWith(t, input{})
	numbers := list(math.MinInt, -1, 0, 1, 50, 300, 500, 4095, math.MaxInt)
	for _, a := range numbers {
		for _, b := range numbers {
			s := to(a, b)
			for _, i := range list(
				input{r: rule(a, b), start: s, room: s, limit: s, moist: s, stays: list(stay(a, b, a)), table: list(step(a, b)), items: list(item(s, s, a)), rooms: list(room(a, b, a)), complaint: complaint{list(cause(a, b)), a, b}},
				good(func(i *input) {
					i.start, i.moist, i.stays[1].Hours, i.table[1], i.items[0].Hours, i.rooms[0].Places, i.causes[2], i.missing = s, s, b, step(a, b), a, b, cause(a, b), b
				}),
				good(func(i *input) {
					i.r, i.room, i.stays[0].Room, i.table[0].Keep, i.items[1].Start, i.rooms[1].Moist, i.seen = rule(a, b), s, s, b, s, s, a
				}),
				good(func(i *input) {
					i.limit, i.stays[1], i.table[2], i.items[1].Limit, i.rooms[1], i.seen, i.missing = s, stay(0, a, b), step(120, b), s, room(0, a, b), a, b
				}),
			) {
				errorsWith(t, i)
			}
		}
	}
}
