package print_test

import (
	"math"
	"reflect"
	"slices"
	"testing"

	"testliner/api"
	"testliner/print"
)

// input is an argument for all functions.
type input struct {
	job         api.PrintJob
	rooms       []api.PrintRoom
	shifts      []api.PrintShift
	a, b, plate int
	sheets      int
	seen        []string
	order, load [][]int
	first       []int
	stations    int
}

// good returns arguments that are valid for all functions, good but for what change does.
func good(change func(i *input)) input {
	i := input{
		job: chapterJob(), rooms: chapterRooms(), shifts: list(api.PrintShift{}, api.PrintShift{X: 1}),
		a: 0, b: 1, plate: 1, sheets: 10, seen: list("????", "????"),
		order: list(list(3, 0), list(1, 2), list(2, 2)), first: list(0, 0),
		load: list(list(1, 2), list(3), list(1, 2)), stations: 2,
	}
	change(&i)
	return i
}

// errorsWith returns the errors of all functions, and checks that all else that they return is zero if there is one.
func errorsWith(t *testing.T, i input) map[string]api.Errno {
	t.Helper()
	got := map[string]api.Errno{}
	add := func(name string, e api.Errno, results ...any) {
		got[name] = e
		for _, y := range results {
			v := reflect.ValueOf(y)
			if e != api.OK && !v.IsZero() && !(v.Kind() == reflect.Slice && v.Len() == 0) {
				t.Errorf("%s: %d with %v", name, e, y)
			}
		}
	}
	add("Check", print.Check(i.job))
	sheet, e := print.Show(i.job, i.shifts)
	add("Show", e, sheet)
	possibly, surely, e := print.White(i.job, i.rooms)
	add("White", e, possibly, surely)
	cross, e := print.Cross(i.job, i.rooms, i.a, i.b)
	add("Cross", e, cross)
	times, rows, e := print.Spread(i.job, i.rooms, i.plate)
	add("Spread", e, times, rows)
	ink, e := print.Ink(i.job, i.rooms, i.sheets)
	add("Ink", e, ink)
	many, left, e := print.Can(i.job, i.rooms, i.seen)
	add("Can", e, many, left)
	column, row, most, e := print.Look(i.job, i.rooms, i.seen)
	add("Look", e, column, row, most)
	order, cost, e := print.Order(i.order, i.first)
	add("Order", e, order, cost)
	washes, e := print.Load(i.load, i.stations)
	add("Load", e, washes)
	return got
}

// expect checks that some functions have an error.
func expect(t *testing.T, name string, i input, e api.Errno, functions ...string) {
	t.Helper()
	got := errorsWith(t, i)
	for _, f := range functions {
		if got[f] != e {
			t.Errorf("%s: %s: %d, want %d", name, f, got[f], e)
		}
	}
}

// worse makes all that comes after a job and its rooms invalid.
func worse(i *input) {
	i.a, i.b, i.plate, i.sheets, i.seen = -1, -1, -1, -1, nil
}

// P6.1: what is wrong with a job, before all else of the functions that have one.
func TestJobErrors(t *testing.T) {
	bad := list(-1, 9999)
	for name, c := range map[string]struct {
		job api.PrintJob
		e   api.Errno
	}{
		"nothing":               {api.PrintJob{}, api.ErrRange},
		"Wide 0":                {job(0, 1, list(0)), api.ErrRange},
		"Wide -1":               {job(-1, 1, list(0)), api.ErrRange},
		"Wide 11":               {job(11, 1, list(0)), api.ErrRange},
		"greatest Wide":         {job(math.MaxInt, 1, list(0)), api.ErrRange},
		"least Wide":            {job(math.MinInt, 1, list(0)), api.ErrRange},
		"High 0":                {job(1, 0, nil), api.ErrRange},
		"High -1":               {job(1, -1, nil), api.ErrRange},
		"High 7":                {job(1, 7, make([]int, 7)), api.ErrRange},
		"Wide as High at most":  {job(10, 10, make([]int, 10)), api.ErrRange},
		"least High":            {job(1, math.MinInt, nil), api.ErrRange},
		"range before long":     {job(11, 1, bad, bad, bad, bad), api.ErrRange},
		"range before none":     {job(1, 7), api.ErrRange},
		"range before form":     {job(1, 7, bad), api.ErrRange},
		"four plates":           {job(1, 1, list(0), list(0), list(0), list(0)), api.ErrLong},
		"long before form":      {job(1, 1, bad, nil, bad, bad), api.ErrLong},
		"no plates":             {job(1, 1), api.ErrNone},
		"an empty list":         {job(1, 1, [][]int{}...), api.ErrNone},
		"a row too few":         {job(1, 2, list(0)), api.ErrForm},
		"a row too much":        {job(1, 2, list(0, 0, 0)), api.ErrForm},
		"no rows":               {job(1, 1, nil), api.ErrForm},
		"rows of the last":      {job(1, 2, list(0, 0), list(0, 0), list(0)), api.ErrForm},
		"a row 2^Wide":          {job(1, 1, list(2)), api.ErrForm},
		"a row -1":              {job(1, 1, list(-1)), api.ErrForm},
		"the last row":          {job(3, 2, list(7, 7), list(7, 8)), api.ErrForm},
		"the greatest row":      {job(3, 2, list(math.MaxInt, 7)), api.ErrForm},
		"the least row":         {job(3, 2, list(7, math.MinInt)), api.ErrForm},
		"a row 2^10":            {job(10, 1, list(1024)), api.ErrForm},
		"the smallest":          {job(1, 1, list(1)), api.OK},
		"the largest":           {job(10, 6, list(1023, 0, 1023, 0, 0, 1023), make([]int, 6), make([]int, 6)), api.OK},
		"greatest rows":         {job(3, 2, list(7, 7), list(7, 7)), api.OK},
		"as wide as it can be":  {job(10, 1, list(1023)), api.OK},
		"as high as it can be":  {job(1, 6, make([]int, 6)), api.OK},
		"as many as can be":     {job(1, 1, list(0), list(0), list(0)), api.OK},
		"like plates":           {job(2, 1, list(3), list(3)), api.OK},
		"nothing is printed":    {job(2, 1, list(0)), api.OK},
		"an example's":          {chapterJob(), api.OK},
		"with plates for 10, 6": {job(10, 6, make([]int, 6)), api.OK},
	} {
		if e := print.Check(c.job); e != c.e {
			t.Errorf("%s: %d, want %d", name, e, c.e)
		}
		late := c.e
		if late == api.OK {
			late = api.ErrForm
		}
		expect(t, name, good(func(i *input) {
			worse(i)
			i.job, i.rooms, i.shifts = c.job, nil, nil
		}), late, "Show", "White", "Cross", "Spread", "Ink", "Can", "Look")
		expect(t, name, good(func(i *input) {
			worse(i)
			i.job, i.rooms, i.shifts = c.job, make([]api.PrintRoom, 4), make([]api.PrintShift, 4)
		}), late, "Show", "White", "Cross", "Spread", "Ink", "Can", "Look")
	}
}

// P6.1: what is wrong with rooms, before all that comes after them.
func TestRoomErrors(t *testing.T) {
	wrong := x(-3, 3)
	for name, c := range map[string]struct {
		rooms []api.PrintRoom
		e     api.Errno
	}{
		"none":                    {nil, api.ErrForm},
		"one":                     {list(free()), api.ErrForm},
		"three":                   {list(free(), free(), free()), api.ErrForm},
		"form before argument":    {list(wrong), api.ErrForm},
		"X -3":                    {list(x(-3, 0), free()), api.ErrArg},
		"X 3":                     {list(x(0, 3), free()), api.ErrArg},
		"Y -3":                    {list(y(-3, 0), free()), api.ErrArg},
		"Y 3":                     {list(y(0, 3), free()), api.ErrArg},
		"X of the last":           {list(free(), x(0, 3)), api.ErrArg},
		"Y of the last":           {list(free(), y(-3, 0)), api.ErrArg},
		"X from 1 to 0":           {list(x(1, 0), free()), api.ErrArg},
		"Y from 2 to -2":          {list(free(), y(2, -2)), api.ErrArg},
		"X as far as it goes":     {list(x(math.MinInt, math.MaxInt), free()), api.ErrArg},
		"Y around":                {list(free(), y(math.MaxInt, math.MinInt)), api.ErrArg},
		"all shifts":              {list(free(), free()), api.OK},
		"one shift at the corner": {list(room(to(-2, -2), to(2, 2)), room(to(2, 2), to(-2, -2))), api.OK},
		"no shift at all":         {make([]api.PrintRoom, 2), api.OK},
	} {
		all := list("White", "Cross", "Spread", "Ink", "Can", "Look")
		if c.e == api.OK {
			expect(t, name, good(func(i *input) { i.rooms, i.seen = c.rooms, list("????", "????") }), api.OK, "White", "Cross", "Ink", "Can")
			continue
		}
		expect(t, name, good(func(i *input) { i.rooms = c.rooms }), c.e, all...)
		expect(t, name, good(func(i *input) {
			worse(i)
			i.rooms = c.rooms
		}), c.e, all...)
	}
}

// P6.2: what is wrong with the shifts of Show.
func TestShiftErrors(t *testing.T) {
	by := func(x, y int) api.PrintShift { return api.PrintShift{X: x, Y: y} }
	for name, c := range map[string]struct {
		shifts []api.PrintShift
		e      api.Errno
	}{
		"none":                 {nil, api.ErrForm},
		"one":                  {list(by(0, 0)), api.ErrForm},
		"three":                {list(by(0, 0), by(0, 0), by(0, 0)), api.ErrForm},
		"form before argument": {list(by(3, 3), by(3, 3), by(3, 3)), api.ErrForm},
		"X -3":                 {list(by(-3, 0), by(0, 0)), api.ErrArg},
		"X 3":                  {list(by(3, 0), by(0, 0)), api.ErrArg},
		"Y -3":                 {list(by(0, -3), by(0, 0)), api.ErrArg},
		"Y 3":                  {list(by(0, 3), by(0, 0)), api.ErrArg},
		"X of the last":        {list(by(0, 0), by(3, 0)), api.ErrArg},
		"Y of the last":        {list(by(0, 0), by(0, -3)), api.ErrArg},
		"greatest and least":   {list(by(0, 0), by(math.MaxInt, math.MinInt)), api.ErrArg},
		"to corners":           {list(by(-2, 2), by(2, -2)), api.OK},
		"to other corners":     {list(by(-2, -2), by(2, 2)), api.OK},
	} {
		expect(t, name, good(func(i *input) { i.shifts = c.shifts }), c.e, "Show")
	}
}

// P6.4, P6.5, P6.6: numbers of plates and of sheets.
func TestNumberErrors(t *testing.T) {
	three := good(func(i *input) { i.job.Plates, i.rooms = append(i.job.Plates, list(0, 0)), append(i.rooms, free()) })
	for _, a := range []int{math.MinInt, -1, 0, 1, 2, 3, math.MaxInt} {
		for _, b := range []int{math.MinInt, -1, 0, 1, 2, 3, math.MaxInt} {
			i, want := three, api.ErrArg
			if i.a, i.b = a, b; a >= 0 && a <= 2 && b >= 0 && b <= 2 && a != b {
				want = api.OK
			}
			expect(t, "cross", i, want, "Cross")
		}
		i, want := three, api.ErrArg
		if i.plate = a; a >= 0 && a <= 2 {
			want = api.OK
		}
		if a == 2 { // a plate that prints nothing cannot help
			want = api.ErrState
		}
		expect(t, "spread", i, want, "Spread")
	}
	one := good(func(i *input) { i.job, i.rooms = dot(3, 3), list(x(0, 1)) })
	expect(t, "one plate", one, api.ErrArg, "Cross", "Spread")
	for sheets, e := range map[int]api.Errno{
		-1: api.ErrLong, 100001: api.ErrLong, math.MinInt: api.ErrLong, math.MaxInt: api.ErrLong, 0: api.OK, 1: api.OK, 100000: api.OK,
	} {
		expect(t, "sheets", good(func(i *input) { i.sheets = sheets }), e, "Ink")
	}
}

// P6.7, P6.8: what is wrong with a sheet that was seen.
func TestSeenErrors(t *testing.T) {
	for name, c := range map[string]struct {
		seen      []string
		can, look api.Errno
	}{
		"no rows":               {nil, api.ErrTwice, api.ErrTwice},
		"a row":                 {list("????"), api.ErrTwice, api.ErrTwice},
		"three rows":            {list("????", "????", "????"), api.ErrTwice, api.ErrTwice},
		"a row too short":       {list("????", "???"), api.ErrTwice, api.ErrTwice},
		"a row too long":        {list("?????", "????"), api.ErrTwice, api.ErrTwice},
		"an empty row":          {list("????", ""), api.ErrTwice, api.ErrTwice},
		"8":                     {list("????", "???8"), api.ErrTwice, api.ErrTwice},
		"a line feed":           {list("???\n", "????"), api.ErrTwice, api.ErrTwice},
		"characters, not bytes": {list("???é", "????"), api.ErrTwice, api.ErrTwice},
		"bytes that are none":   {list("??é", "????"), api.ErrTwice, api.ErrTwice},
		"twice before state":    {list("7777", "???x"), api.ErrTwice, api.ErrTwice},
		"no truth":              {list("2???", "????"), api.ErrState, api.ErrState},
		"state before none":     {list("2122", "1122"), api.ErrState, api.ErrState},
		"two that no truth has": {list("??2?", "??0?"), api.ErrState, api.ErrState},
		"a third plate":         {list("????", "???6"), api.ErrState, api.ErrState},
		"just a third plate":    {list("????", "4???"), api.ErrState, api.ErrState},
		"all is seen":           {list("1122", "1122"), api.OK, api.ErrNone},
		"one truth":             {list("??0?", "????"), api.OK, api.ErrNone},
		"one cell was not seen": {list("1122", "11?2"), api.OK, api.ErrNone},
		"two truths":            {list("????", "11?2"), api.OK, api.OK},
		"what all have":         {list("11?2", "11?2"), api.OK, api.OK},
	} {
		i := good(func(i *input) { i.seen = c.seen })
		expect(t, name, i, c.can, "Can")
		expect(t, name, i, c.look, "Look")
	}
	// Two truths, of which the sheets are like each other.
	blank := good(func(i *input) { i.job = job(4, 2, list(3, 3), list(0, 0)) })
	expect(t, "like sheets", blank, api.OK, "Can")
	expect(t, "like sheets", blank, api.ErrNone, "Look")
	// All is seen but where all truths are alike.
	expect(t, "all is seen, and two truths", good(func(i *input) {
		i.job, i.seen = job(4, 2, list(3, 3), list(0, 0)), list("1100", "110?")
	}), api.ErrNone, "Look")
}

// P6.7: which bytes a sheet can have, with any number of plates.
func TestSeenBytes(t *testing.T) {
	for b := range 256 {
		for plates := 1; plates <= 3; plates++ {
			i := good(func(i *input) {
				i.job, i.rooms, i.seen = job(1, 1), make([]api.PrintRoom, plates), list(string([]byte{byte(b)}))
				for range plates {
					i.job.Plates = append(i.job.Plates, list(1))
				}
			})
			want := api.ErrTwice
			if b == '?' || b == '0'+1<<plates-1 {
				want = api.OK
			} else if b >= '0' && b <= '7' {
				want = api.ErrState
			}
			expect(t, "a byte", i, want, "Can")
			if want == api.OK {
				want = api.ErrNone
			}
			expect(t, "a byte", i, want, "Look")
		}
	}
}

// P6.9: what is wrong with jobs and stations of Order.
func TestOrderErrors(t *testing.T) {
	for name, c := range map[string]struct {
		jobs  [][]int
		first []int
		e     api.Errno
	}{
		"eight jobs":           {make([][]int, 8), nil, api.ErrLong},
		"five stations":        {nil, make([]int, 5), api.ErrLong},
		"long before form":     {list(list(10)), make([]int, 5), api.ErrLong},
		"long before argument": {make([][]int, 8), list(10), api.ErrLong},
		"a number too few":     {list(list(1, 2), list(1)), list(0, 0), api.ErrForm},
		"a number too much":    {list(list(1, 2, 3)), list(0, 0), api.ErrForm},
		"no numbers":           {list(list(1), nil), list(0), api.ErrForm},
		"no stations":          {list(list(1)), nil, api.ErrForm},
		"form before argument": {list(list(10), list(1, 1)), list(-1), api.ErrForm},
		"an ink 10":            {list(list(1), list(10)), list(0), api.ErrArg},
		"an ink -1":            {list(list(-1), list(1)), list(0), api.ErrArg},
		"10 at first":          {list(list(1), list(1)), list(10), api.ErrArg},
		"-1 at first":          {nil, list(0, -1), api.ErrArg},
		"the greatest ink":     {list(list(math.MaxInt)), list(0), api.ErrArg},
		"the least at first":   {list(list(1)), list(math.MinInt), api.ErrArg},
		"nothing":              {nil, nil, api.OK},
		"seven jobs of four":   {slices.Repeat(list(list(0, 1, 5, 9)), 7), list(9, 0, 9, 0), api.OK},
		"jobs without inks":    {make([][]int, 7), nil, api.OK},
		"no jobs":              {nil, list(9, 8, 7, 6), api.OK},
	} {
		expect(t, name, good(func(i *input) { i.order, i.first = c.jobs, c.first }), c.e, "Order")
	}
}

// P6.10: what is wrong with jobs and stations of Load.
func TestLoadErrors(t *testing.T) {
	for name, c := range map[string]struct {
		jobs     [][]int
		stations int
		e        api.Errno
	}{
		"no stations":              {nil, 0, api.ErrRange},
		"-1 stations":              {nil, -1, api.ErrRange},
		"five stations":            {nil, 5, api.ErrRange},
		"the most stations":        {list(list(1)), math.MaxInt, api.ErrRange},
		"the fewest stations":      {list(list(1)), math.MinInt, api.ErrRange},
		"range before long":        {make([][]int, 8), 5, api.ErrRange},
		"eight jobs":               {make([][]int, 8), 1, api.ErrLong},
		"two inks on one":          {list(list(1), list(1, 2)), 1, api.ErrLong},
		"five inks":                {list(list(1, 2, 3, 4, 5)), 4, api.ErrLong},
		"long before argument":     {list(list(10), list(10, 0)), 1, api.ErrLong},
		"long before twice":        {list(list(1, 1)), 1, api.ErrLong},
		"an ink 0":                 {list(list(1), list(0)), 2, api.ErrArg},
		"an ink 10":                {list(list(10), list(1)), 2, api.ErrArg},
		"an ink -1":                {list(list(1, -1)), 2, api.ErrArg},
		"the greatest ink":         {list(list(math.MaxInt)), 2, api.ErrArg},
		"the least ink":            {list(list(1), list(math.MinInt)), 2, api.ErrArg},
		"argument before twice":    {list(list(1, 1), list(10)), 2, api.ErrArg},
		"twice":                    {list(list(1, 1)), 2, api.ErrTwice},
		"twice in the last one":    {list(list(1, 2), list(3, 4, 3)), 4, api.ErrTwice},
		"twice at the end":         {list(list(1, 2, 3, 3)), 4, api.ErrTwice},
		"in two jobs":              {list(list(1, 2), list(2, 1)), 2, api.OK},
		"nothing":                  {nil, 1, api.OK},
		"seven jobs of four":       {slices.Repeat(list(list(1, 9, 5, 2)), 7), 4, api.OK},
		"jobs without inks":        {make([][]int, 7), 1, api.OK},
		"as many as stations have": {list(list(4), list(5)), 1, api.OK},
	} {
		expect(t, name, good(func(i *input) { i.load, i.stations = c.jobs, c.stations }), c.e, "Load")
	}
}

// P2, R4: no argument is changed, nor the spare room behind it; results are new memory, and equal for equal arguments.
func TestMemory(t *testing.T) {
	before, i := spareInput(), spareInput()
	var first []any
	for range 2 {
		for f, e := range errorsWith(t, i) {
			if e != api.OK {
				t.Error(f, e)
			}
		}
		var results []any
		for plate := range i.job.Plates {
			for _, room := range list(x(0, 0), x(0, 1)) { // Spread is 0, and 1
				i.rooms[1] = room
				_, rows, _ := print.Spread(i.job, i.rooms, plate)
				results = append(results, slices.Clone(rows))
				clear(rows[:cap(rows)])
			}
		}
		sheet, _ := print.Show(i.job, i.shifts)
		possibly, surely, _ := print.White(i.job, i.rooms)
		cross, _ := print.Cross(i.job, i.rooms, i.a, i.b)
		ink, _ := print.Ink(i.job, i.rooms, i.sheets)
		_, left, _ := print.Can(i.job, i.rooms, i.seen)
		order, _, _ := print.Order(i.order, i.first)
		results = append(results, slices.Clone(sheet), slices.Clone(possibly), slices.Clone(surely), slices.Clone(cross), slices.Clone(ink), slices.Clone(left), slices.Clone(order))
		clear(possibly[:cap(possibly)])
		if !reflect.DeepEqual(surely, []int{0, 0}) {
			t.Error(surely)
		}
		for row := range surely {
			surely[row] = 99
		}
		clear(sheet[:cap(sheet)])
		clear(cross[:cap(cross)])
		clear(ink[:cap(ink)])
		clear(left[:cap(left)])
		clear(order[:cap(order)])
		if first == nil {
			first = results
		}
		if !reflect.DeepEqual(results, first) {
			t.Error(results, first)
		}
		if !reflect.DeepEqual(fullInput(i), fullInput(before)) {
			t.Error(i)
		}
	}
}

// spare returns a list with spare room, full the list with that room.
func spare[E any](list []E) []E { return append(make([]E, 0, 20), list...) }

func full[E any](list []E) []E { return list[:cap(list)] }

// spareInput returns valid arguments in which all lists have spare room, fullInput arguments with that room.
func spareInput() input {
	return good(func(i *input) {
		i.job.Plates, i.rooms, i.shifts, i.seen, i.first = spare(i.job.Plates), spare(i.rooms), spare(i.shifts), spare(i.seen), spare(i.first)
		for _, lists := range list(i.job.Plates, i.order, i.load) {
			for n := range lists {
				lists[n] = spare(lists[n])
			}
		}
		i.order, i.load = spare(i.order), spare(i.load)
	})
}

func fullInput(i input) input {
	i.job.Plates, i.rooms, i.shifts, i.seen, i.first = full(i.job.Plates), full(i.rooms), full(i.shifts), full(i.seen), full(i.first)
	i.order, i.load = full(i.order), full(i.load)
	for _, lists := range list(&i.job.Plates, &i.order, &i.load) {
		*lists = slices.Clone(*lists)
		for n := range *lists {
			(*lists)[n] = full((*lists)[n])
		}
	}
	return i
}

// P1: with the least and the greatest numbers, and none at all, each function ends.
func TestAnyArguments(t *testing.T) {
	numbers := []int{math.MinInt, -1, 0, 1, 3, math.MaxInt}
	for _, a := range numbers {
		for _, b := range numbers {
			for _, j := range list(job(a, b), job(b, 1, list(a)), job(1, a, list(b)), job(4, 2, list(a, b), list(b, a)), chapterJob()) {
				for _, rooms := range list(nil, list(room(to(a, b), to(b, a))), list(x(a, b), y(a, b)), chapterRooms()) {
					errorsWith(t, input{
						job: j, rooms: rooms, shifts: list(api.PrintShift{X: a, Y: b}, api.PrintShift{X: b}), a: a, b: b, plate: a, sheets: b,
						seen: list("", "1???", "????", "\xff")[min(1, max(0, a)):], order: list(list(a), list(b)), first: list(b),
						load: list(list(a, b), list(b)), stations: a,
					})
					errorsWith(t, input{
						job: j, rooms: rooms, a: 1, b: a, plate: b, sheets: a, seen: list("????", "????"),
						order: list(list(a, b), nil), first: list(a, b), load: list(list(a), list(b), nil), stations: 2,
					})
				}
			}
		}
	}
}
