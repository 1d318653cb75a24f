package print_test

import (
	"math/rand"
	"slices"
	"testing"

	"testliner/api"
	"testliner/print"
)

// roomed is a job with its rooms.
type roomed struct {
	job   api.PrintJob
	rooms []api.PrintRoom
}

// someRoomed returns jobs with their rooms: many small ones, and some large ones with many truths.
func someRoomed(seed int64) []roomed {
	r := rand.New(rand.NewSource(seed))
	var all []roomed
	add := func(many, wide, high, more int) {
		for range many {
			j := someJob(r, wide, high)
			all = append(all, roomed{j, someRooms(r, j, more)})
		}
	}
	add(1000, 5, 4, 1)
	add(300, 6, 6, 2)
	add(40, 10, 6, 2)
	for range 4 {
		j := job(10, 6, someRows(r, 10, 6), someRows(r, 10, 6))
		all = append(all, roomed{j, list(free(), free())})
	}
	return all
}

// P6.2: the chapter's example, and what lies beside the sheet.
func TestShowExamples(t *testing.T) {
	by := func(x, y int) api.PrintShift { return api.PrintShift{X: x, Y: y} }
	full := job(4, 3, list(15, 15, 15))
	for i, c := range []struct {
		job    api.PrintJob
		shifts []api.PrintShift
		sheet  []string
	}{
		{chapterJob(), list(by(0, 0), by(0, 0)), list("1122", "1122")},
		{chapterJob(), list(by(0, 0), by(1, 0)), list("1102", "1102")},
		{chapterJob(), list(by(0, 0), by(-1, 0)), list("1320", "1320")},
		{chapterJob(), list(by(0, 1), by(0, -1)), list("0022", "1100")},
		{full, list(by(2, 0)), list("0011", "0011", "0011")},
		{full, list(by(-2, 0)), list("1100", "1100", "1100")},
		{full, list(by(0, 2)), list("0000", "0000", "1111")},
		{full, list(by(0, -2)), list("1111", "0000", "0000")},
		{full, list(by(1, -1)), list("0111", "0111", "0000")},
		{job(1, 1, list(1), list(1), list(1)), list(by(0, 0), by(0, 0), by(0, 0)), list("7")},
		{job(1, 1, list(1), list(1), list(1)), list(by(0, 0), by(-1, 0), by(0, 0)), list("5")},
		{job(1, 1, list(1), list(1), list(1)), list(by(0, 2), by(-2, 0), by(0, 0)), list("4")},
		{job(10, 1, list(1)), list(by(2, 0)), list("0010000000")},
		{job(10, 1, list(512)), list(by(-2, 0)), list("0000000100")},
		{job(1, 6, list(1, 0, 0, 0, 0, 1)), list(by(0, 1)), list("0", "1", "0", "0", "0", "0")},
		{job(2, 1, list(0)), list(by(1, 1)), list("00")},
	} {
		if sheet := show(t, c.job, c.shifts); !slices.Equal(sheet, c.sheet) {
			t.Error(i, sheet)
		}
	}
}

// P6.2: the looks of all cells, by where each of them comes from.
func TestShow(t *testing.T) {
	r := rand.New(rand.NewSource(1))
	for _, c := range someRoomed(2) {
		shifts := someShifts(r, someRooms(r, c.job, 4))
		want := sheet(c.job, looks(c.job, shifts), func(int) bool { return false })
		if got := show(t, c.job, shifts); !slices.Equal(got, want) {
			t.Error(c.job, shifts, got, want)
		}
	}
}

// P6.3, P6.5: the chapter's examples; what is white for one shift, for all, or never; a design that is no truth.
func TestWhiteExamples(t *testing.T) {
	over := job(3, 1, list(6), list(3))
	for i, c := range []struct {
		job              api.PrintJob
		rooms            []api.PrintRoom
		possibly, surely []int
	}{
		{chapterJob(), chapterRooms(), list(4, 4), list(0, 0)},
		{chapterJob(), list(x(0, 0), x(1, 1)), list(4, 4), list(4, 4)},
		{chapterJob(), list(x(0, 0), x(0, 0)), list(0, 0), list(0, 0)},
		// The plates are shifted each on its own: 2 can be white, and so can 1, but not in the same truth with all shifts of both.
		{chapterJob(), list(x(-1, 0), x(0, 1)), list(6, 6), list(0, 0)},
		{chapterJob(), list(x(-1, -1), x(1, 1)), list(6, 6), list(6, 6)},
		// What one plate leaves the other one can print in its place.
		{chapterJob(), list(x(0, 1), x(1, 1)), list(5, 5), list(0, 0)},
		{chapterJob(), list(x(1, 1), x(1, 1)), list(1, 1), list(1, 1)},
		{over, list(x(0, 0), x(-2, 2)), list(1), list(0)},
		{over, list(x(-2, 2), x(-2, 2)), list(7), list(0)},
		// A cell that no plate prints is not of the design.
		{job(3, 1, list(2)), list(x(1, 1)), list(2), list(2)},
		{job(3, 1, list(2)), list(x(-1, 1)), list(2), list(0)},
		{job(1, 1, list(1)), list(x(2, 2)), list(1), list(1)},
		{job(1, 1, list(0)), list(free()), list(0), list(0)},
	} {
		possibly, surely, e := print.White(c.job, c.rooms)
		if !slices.Equal(possibly, c.possibly) || !slices.Equal(surely, c.surely) || e != api.OK {
			t.Error(i, possibly, surely, e)
		}
	}
}

// P6.3: cells of the design that are white in some truth, and in all, by all truths.
func TestWhite(t *testing.T) {
	for _, c := range someRoomed(3) {
		wantPossibly, wantSurely := trueWhite(c.job, c.rooms, design(c.job))
		possibly, surely, e := print.White(c.job, c.rooms)
		if !slices.Equal(possibly, wantPossibly) || !slices.Equal(surely, wantSurely) || e != api.OK {
			t.Error(c, possibly, surely, e, wantPossibly, wantSurely)
		}
	}
}

// wider returns rooms that are as wide, or wider.
func wider(r *rand.Rand, rooms []api.PrintRoom) []api.PrintRoom {
	all := slices.Clone(rooms)
	for i := range all {
		for _, s := range list(&all[i].X, &all[i].Y) {
			*s = to(some(r, -2, s.Low), some(r, s.High, 2))
		}
	}
	return all
}

// P6.11: a white cell of the design is possibly white, a surely white one is white; with wider rooms no fewer cells are possibly white, and no more surely.
func TestWhiteFollows(t *testing.T) {
	r := rand.New(rand.NewSource(4))
	for _, c := range someRoomed(5) {
		possibly, surely, _ := print.White(c.job, c.rooms)
		plain := show(t, c.job, make([]api.PrintShift, len(c.rooms)))
		for range 5 {
			seen := show(t, c.job, someShifts(r, c.rooms))
			white := rowsOf(c.job, func(cell int) bool {
				column, row := cell%c.job.Wide, cell/c.job.Wide
				return plain[row][column] != '0' && seen[row][column] == '0'
			})
			if !within(white, possibly) || !within(surely, white) {
				t.Error(c, white, possibly, surely)
			}
		}
		more, fewer, e := print.White(c.job, wider(r, c.rooms))
		if !within(possibly, more) || !within(fewer, surely) || e != api.OK {
			t.Error(c, possibly, more, surely, fewer, e)
		}
	}
}

// P6.4: the chapter's examples; what lies one over the other in the design is meant to.
func TestCrossExamples(t *testing.T) {
	over := job(4, 1, list(3), list(6))
	for i, c := range []struct {
		job   api.PrintJob
		rooms []api.PrintRoom
		a, b  int
		rows  []int
	}{
		{chapterJob(), chapterRooms(), 0, 1, list(0, 0)},
		{chapterJob(), list(x(0, 0), x(-1, 1)), 0, 1, list(2, 2)},
		{chapterJob(), list(x(0, 0), x(-1, 1)), 1, 0, list(2, 2)},
		{chapterJob(), list(x(0, 1), x(-1, 0)), 0, 1, list(6, 6)},
		{chapterJob(), list(x(0, 1), x(1, 1)), 0, 1, list(0, 0)},
		{over, list(x(0, 0), x(0, 0)), 0, 1, list(0)},
		{over, list(x(1, 1), x(0, 0)), 0, 1, list(4)},
		{over, list(x(0, 0), x(-1, -1)), 0, 1, list(1)},
		{job(4, 1, list(3), list(12), list(6)), list(x(0, 0), x(0, 0), x(-2, 2)), 0, 2, list(1)},
		{job(4, 1, list(3), list(12), list(6)), list(x(0, 0), x(0, 0), x(-2, 2)), 2, 1, list(8)},
		{job(4, 1, list(3), list(12), list(6)), list(x(0, 0), x(0, 0), x(-2, 2)), 0, 1, list(0)},
	} {
		if rows, e := print.Cross(c.job, c.rooms, c.a, c.b); !slices.Equal(rows, c.rows) || e != api.OK {
			t.Error(i, rows, e)
		}
	}
}

// P6.4: cells that two plates both print in some truth, and not both in the design, by all truths.
func TestCross(t *testing.T) {
	for _, c := range someRoomed(6) {
		all, plain := allLooks(c.job, c.rooms), design(c.job)
		for a := range c.job.Plates {
			for b := range c.job.Plates {
				if a == b {
					continue
				}
				both := func(look int) bool { return look>>a&1 == 1 && look>>b&1 == 1 }
				want := rowsOf(c.job, func(cell int) bool {
					return !both(plain[cell]) && slices.ContainsFunc(all, func(looks []int) bool { return both(looks[cell]) })
				})
				if rows, e := print.Cross(c.job, c.rooms, a, b); !slices.Equal(rows, want) || e != api.OK {
					t.Error(c, a, b, rows, want, e)
				}
			}
		}
	}
}

// P6.5: the chapter's examples; each number of times, and where no number helps.
func TestSpreadExamples(t *testing.T) {
	diamond := list(16, 56, 124, 254, 124, 56) // the dot at 4, 3, spread three times, and cut off below
	for i, c := range []struct {
		job   api.PrintJob
		rooms []api.PrintRoom
		plate int
		times int
		rows  []int
		e     api.Errno
	}{
		{chapterJob(), chapterRooms(), 0, 1, list(7, 7), api.OK},
		{chapterJob(), chapterRooms(), 1, 1, list(14, 14), api.OK},
		{chapterJob(), list(x(0, 0), x(0, 0)), 0, 0, list(3, 3), api.OK},
		{dot(9, 6), list(x(0, 0)), 0, 0, list(0, 0, 0, 16, 0, 0), api.OK},
		{dot(9, 6), list(y(0, 1)), 0, 1, list(0, 0, 16, 56, 16, 0), api.OK},
		{dot(9, 6), list(room(to(-1, 0), to(0, 1))), 0, 2, list(0, 16, 56, 124, 56, 16), api.OK},
		{dot(9, 6), list(room(to(-1, 0), to(-2, 1))), 0, 3, diamond, api.OK},
		{dot(9, 6), list(free()), 0, 4, list(56, 124, 254, 511, 254, 124), api.OK},
		// No more than a corner's distance of 4 is needed, but beside the sheet nothing is printed that could come back.
		{job(3, 1, list(1)), list(x(1, 1)), 0, 0, nil, api.ErrState},
		{job(3, 1, list(4)), list(x(-1, -1)), 0, 0, nil, api.ErrState},
		{job(3, 1, list(1)), list(x(-1, -1)), 0, 1, list(3), api.OK},
		{job(1, 1, list(1)), list(y(0, 1)), 0, 0, nil, api.ErrState},
		// A plate must be spread to what another one leaves: four times are enough for that, five would be too many.
		{job(10, 1, list(1), list(32)), list(x(0, 0), x(-1, -1)), 0, 0, nil, api.ErrState},
		{job(10, 1, list(2), list(32)), list(x(0, 0), x(-1, -1)), 0, 4, list(63), api.OK},
		{job(10, 1, list(2), list(32)), list(x(0, 0), x(-1, 0)), 1, 1, list(112), api.OK},
		// What the plate was spread over is not of the design, and need not be printed.
		{job(5, 1, list(4)), list(x(-1, 1)), 0, 1, list(14), api.OK},
		{job(4, 1, list(0)), list(free()), 0, 0, list(0), api.OK},
		{job(4, 1, list(1), list(0)), list(x(0, 0), free()), 1, 0, list(0), api.OK},
		{job(4, 1, list(1), list(0)), list(x(1, 1), x(0, 0)), 1, 0, nil, api.ErrState},
	} {
		if times, rows, e := print.Spread(c.job, c.rooms, c.plate); times != c.times || !slices.Equal(rows, c.rows) || e != c.e {
			t.Error(i, times, rows, e)
		}
	}
}

// someMiddle returns jobs of which the plates print few cells far from the edges, with rooms from narrow to wide.
func someMiddle(r *rand.Rand) []roomed {
	var all []roomed
	for range 200 {
		j := job(10, 6)
		for range some(r, 1, 2) {
			rows := make([]int, 6)
			for range some(r, 1, 3) {
				rows[some(r, 2, 3)] |= 1 << some(r, 2, 7)
			}
			j.Plates = append(j.Plates, rows)
		}
		all = append(all, roomed{j, wider(r, make([]api.PrintRoom, len(j.Plates)))})
	}
	return all
}

// P6.5, P6.11: the least number of times, by trying all of them in all truths; spread so, nothing of the design is white, and spread once less something can be.
func TestSpread(t *testing.T) {
	r := rand.New(rand.NewSource(7))
	got := map[int]int{}
	for _, c := range append(someRoomed(8), someMiddle(r)...) {
		plain := design(c.job)
		for plate, rows := range c.job.Plates {
			want, less := -1, rows
			for times := range 5 {
				if possibly, _ := trueWhite(with(c.job, plate, rows), c.rooms, plain); many(possibly) == 0 {
					want = times
					break
				}
				less, rows = rows, trueSpread(c.job, rows)
			}
			got[want]++
			times, spread, e := print.Spread(c.job, c.rooms, plate)
			if want < 0 {
				if e != api.ErrState {
					t.Error(c, plate, times, spread, e)
				}
				continue
			}
			if times != want || !slices.Equal(spread, rows) || e != api.OK {
				t.Error(c, plate, times, spread, e, want, rows)
			}
			after := with(c.job, plate, spread)
			for range 3 {
				now := looks(after, someShifts(r, c.rooms))
				if slices.ContainsFunc(rowsOf(c.job, func(cell int) bool { return plain[cell] > 0 && now[cell] == 0 }), func(row int) bool { return row > 0 }) {
					t.Error(c, plate, spread)
				}
			}
			if possibly, _ := trueWhite(with(c.job, plate, less), c.rooms, plain); times > 0 && many(possibly) == 0 {
				t.Error(c, plate, times, less)
			}
		}
	}
	for times := -1; times <= 4; times++ {
		if got[times] < 15 {
			t.Error("hardly any plates with", times, got)
		}
	}
}

// P6.6: the chapter's example, no sheets, and the most.
func TestInkExamples(t *testing.T) {
	for i, c := range []struct {
		job    api.PrintJob
		rooms  []api.PrintRoom
		sheets int
		ink    []api.Span
	}{
		{chapterJob(), chapterRooms(), 10, list(to(40, 40), to(20, 40))},
		{chapterJob(), chapterRooms(), 0, list(to(0, 0), to(0, 0))},
		{chapterJob(), list(x(1, 2), y(-1, 1)), 3, list(to(12, 12), to(6, 12))},
		// Neither end is where the shift is the least or the greatest one.
		{job(6, 1, list(33)), list(x(-2, 2)), 1, list(to(1, 2))},
		{job(5, 1, list(27)), list(x(-2, 2)), 1, list(to(2, 4))},
		{job(5, 1, list(3)), list(x(-2, 2)), 1, list(to(0, 2))},
		{job(5, 1, list(0)), list(x(-2, 2)), 100000, list(to(0, 0))},
		{job(1, 1, list(1)), list(x(1, 1)), 7, list(to(0, 0))},
		{job(10, 6, slices.Repeat(list(1023), 6)), list(free()), 100000, list(to(3200000, 6000000))},
		{job(10, 6, slices.Repeat(list(1023), 6)), list(x(0, 0)), 1, list(to(60, 60))},
	} {
		if ink, e := print.Ink(c.job, c.rooms, c.sheets); !slices.Equal(ink, c.ink) || e != api.OK {
			t.Error(i, ink, e)
		}
	}
}

// P6.6, P6.13: the least and the most cells over all truths; what some sheets show lies between them; twice as many sheets need twice as much.
func TestInk(t *testing.T) {
	r := rand.New(rand.NewSource(9))
	for _, c := range someRoomed(10) {
		one, e := print.Ink(c.job, c.rooms, 1)
		all := allLooks(c.job, c.rooms)
		if len(one) != len(c.job.Plates) || e != api.OK {
			t.Fatal(c, one, e)
		}
		for plate := range c.job.Plates {
			want := to(60, 0)
			for _, looks := range all {
				n := many(rowsOf(c.job, func(cell int) bool { return looks[cell]>>plate&1 == 1 }))
				want = to(min(want.Low, n), max(want.High, n))
			}
			if one[plate] != want {
				t.Error(c, plate, one, want)
			}
		}
		sheets := some(r, 1, 9)
		ink, _ := print.Ink(c.job, c.rooms, sheets)
		twice, _ := print.Ink(c.job, c.rooms, 2*sheets)
		cells := make([]int, len(c.job.Plates))
		for range sheets {
			for _, row := range show(t, c.job, someShifts(r, c.rooms)) {
				for _, look := range []byte(row) {
					for plate := range cells {
						cells[plate] += int(look-'0') >> plate & 1
					}
				}
			}
		}
		for plate, n := range cells {
			if n < ink[plate].Low || n > ink[plate].High || twice[plate] != to(2*ink[plate].Low, 2*ink[plate].High) {
				t.Error(c, sheets, plate, n, ink, twice)
			}
		}
	}
}
