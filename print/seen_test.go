package print_test

import (
	"math/rand"
	"slices"
	"testing"

	"testliner/api"
	"testliner/print"
)

// P6.7, P6.8: the chapter's example; sheets of which nothing, something and all was seen.
func TestSeenExamples(t *testing.T) {
	around := room(to(-1, 1), to(-1, 1))
	for i, c := range []struct {
		job   api.PrintJob
		rooms []api.PrintRoom
		seen  []string
		many  int
		left  []api.PrintRoom
		look  [3]int
		e     api.Errno
	}{
		{chapterJob(), chapterRooms(), list("??0?", "????"), 1, list(x(0, 0), x(1, 1)), [3]int{}, api.ErrNone},
		{chapterJob(), chapterRooms(), list("????", "????"), 2, chapterRooms(), [3]int{2, 0, 1}, api.OK},
		{chapterJob(), chapterRooms(), list("11?2", "11?2"), 2, chapterRooms(), [3]int{2, 0, 1}, api.OK},
		{chapterJob(), chapterRooms(), list("????", "1122"), 1, list(x(0, 0), x(0, 0)), [3]int{}, api.ErrNone},
		{chapterJob(), chapterRooms(), list("1102", "1102"), 1, list(x(0, 0), x(1, 1)), [3]int{}, api.ErrNone},
		// At the column 1 each of the four truths has a look of its own, in both rows: the first one is returned.
		{chapterJob(), list(x(-1, 0), x(-1, 0)), list("????", "????"), 4, list(x(-1, 0), x(-1, 0)), [3]int{1, 0, 1}, api.OK},
		{chapterJob(), list(x(-1, 0), x(-1, 0)), list("?0??", "????"), 1, list(x(-1, -1), x(0, 0)), [3]int{}, api.ErrNone},
		{chapterJob(), list(x(-1, 0), x(-1, 0)), list("???0", "????"), 2, list(x(-1, 0), x(-1, -1)), [3]int{1, 0, 1}, api.OK},
		{dot(3, 3), list(around), list("???", "???", "???"), 9, list(around), [3]int{0, 0, 8}, api.OK},
		{dot(3, 3), list(around), list("?0?", "?0?", "???"), 7, list(around), [3]int{0, 0, 6}, api.OK},
		{dot(3, 3), list(around), list("000", "000", "???"), 3, list(room(to(-1, 1), to(1, 1))), [3]int{0, 2, 2}, api.OK},
		{dot(3, 3), list(around), list("000", "000", "0?0"), 1, list(room(to(0, 0), to(1, 1))), [3]int{}, api.ErrNone},
		// The shifts that fit do not fill their room.
		{dot(3, 3), list(around), list("?00", "000", "00?"), 2, list(around), [3]int{0, 0, 1}, api.OK},
		{dot(3, 3), list(around), list("00?", "?00", "0?0"), 3, list(around), [3]int{2, 0, 2}, api.OK},
		// Nothing is left on the sheet for some shifts, which are truths of their own.
		{job(1, 1, list(1)), list(free()), list("?"), 25, list(free()), [3]int{0, 0, 24}, api.OK},
		{job(1, 1, list(1)), list(free()), list("0"), 24, list(free()), [3]int{}, api.ErrNone},
		{job(1, 1, list(1)), list(free()), list("1"), 1, list(room(to(0, 0), to(0, 0))), [3]int{}, api.ErrNone},
		// Of three plates all truths are counted.
		{job(1, 1, list(1), list(1), list(1)), list(free(), free(), free()), list("?"), 15625, list(free(), free(), free()), [3]int{0, 0, 13824}, api.OK},
		{job(1, 1, list(1), list(1), list(1)), list(free(), free(), free()), list("5"), 24, list(api.PrintRoom{}, free(), api.PrintRoom{}), [3]int{}, api.ErrNone},
		{job(1, 1, list(1), list(1), list(1)), list(free(), free(), free()), list("4"), 576, list(free(), free(), api.PrintRoom{}), [3]int{}, api.ErrNone},
	} {
		many, left, e := print.Can(c.job, c.rooms, c.seen)
		if many != c.many || !slices.Equal(left, c.left) || e != api.OK {
			t.Error(i, many, left, e)
		}
		column, row, most, e := print.Look(c.job, c.rooms, c.seen)
		if look := [3]int{column, row, most}; look != c.look || e != c.e {
			t.Error(i, look, e)
		}
	}
}

// someSeen returns sheets that were seen: of a truth, and of shifts that need not be one, with looks that were misread.
func someSeen(t *testing.T, r *rand.Rand, c roomed) [][]string {
	t.Helper()
	none := func(int) bool { return true }
	all := list(sheet(c.job, looks(c.job, someShifts(r, c.rooms)), none))
	for range 4 {
		all = append(all, sheet(c.job, looks(c.job, someShifts(r, c.rooms)), hide(r)))
	}
	all = append(all, sheet(c.job, looks(c.job, someShifts(r, someRooms(r, c.job, 2))), hide(r)))
	misread := looks(c.job, someShifts(r, c.rooms))
	misread[r.Intn(len(misread))] = some(r, 0, 7)
	return append(all, sheet(c.job, misread, hide(r)))
}

// P6.7: how many truths fit, and the least and the greatest of their shifts, by all truths.
func TestCan(t *testing.T) {
	r := rand.New(rand.NewSource(11))
	none := 0
	for _, c := range someRoomed(12) {
		for _, seen := range someSeen(t, r, c) {
			truths := fitting(c.job, c.rooms, seen)
			many, left, e := print.Can(c.job, c.rooms, seen)
			if len(truths) == 0 {
				none++
				if e != api.ErrState {
					t.Error(c, seen, many, left, e)
				}
				continue
			}
			var want []api.PrintRoom
			for plate := range c.rooms {
				room := room(to(2, -2), to(2, -2))
				for _, shifts := range truths {
					room.X = to(min(room.X.Low, shifts[plate].X), max(room.X.High, shifts[plate].X))
					room.Y = to(min(room.Y.Low, shifts[plate].Y), max(room.Y.High, shifts[plate].Y))
				}
				want = append(want, room)
			}
			if many != len(truths) || !slices.Equal(left, want) || e != api.OK {
				t.Error(c, seen, many, left, e, len(truths), want)
			}
		}
	}
	if none < 100 {
		t.Error("hardly any sheets that no truth fits", none)
	}
}

// sameLooks returns for each cell how many of some truths have one and the same look there at most, and 0 where somebody has looked.
func sameLooks(j api.PrintJob, truths [][]api.PrintShift, seen []string) []int {
	counts := make([][8]int, j.Wide*j.High)
	for _, shifts := range truths {
		for cell, look := range looks(j, shifts) {
			counts[cell][look]++
		}
	}
	most := make([]int, len(counts))
	for cell, count := range counts {
		if seen[cell/j.Wide][cell%j.Wide] == '?' {
			most[cell] = slices.Max(count[:])
		}
	}
	return most
}

// P6.8: the first cell at which the fewest truths have the same look, by all truths and all looks.
func TestLook(t *testing.T) {
	r := rand.New(rand.NewSource(13))
	none, found := 0, 0
	for _, c := range someRoomed(14) {
		for _, seen := range someSeen(t, r, c) {
			truths := fitting(c.job, c.rooms, seen)
			want, at, e := len(truths), 0, api.ErrNone
			for cell, most := range sameLooks(c.job, truths, seen) {
				if most > 0 && most < want {
					want, at, e = most, cell, api.OK
				}
			}
			if e == api.ErrNone {
				want = 0
				none++
			} else {
				found++
			}
			if len(truths) == 0 {
				want, at, e = 0, 0, api.ErrState
			}
			column, row, most, got := print.Look(c.job, c.rooms, seen)
			if column != at%c.job.Wide || row != at/c.job.Wide || most != want || got != e {
				t.Error(c, seen, column, row, most, got, at, want, e)
			}
		}
	}
	if none < 1000 || found < 1000 {
		t.Error("hardly any sheets with, or without, a cell to look at", none, found)
	}
}

// seenAt returns a sheet with a look at a cell.
func seenAt(seen []string, column, row int, look byte) []string {
	after := slices.Clone(seen)
	bytes := []byte(seen[row])
	bytes[column] = look
	after[row] = string(bytes)
	return after
}

// P6.12: a truth fits the sheet that it prints, with any cells not looked at, and lies in what Can returns; with one cell more looked at no more truths fit.
func TestCanFollows(t *testing.T) {
	r := rand.New(rand.NewSource(15))
	for _, c := range someRoomed(16) {
		shifts := someShifts(r, c.rooms)
		printed := show(t, c.job, shifts)
		seen := sheet(c.job, make([]int, c.job.Wide*c.job.High), func(int) bool { return true })
		before := 1
		for _, room := range c.rooms {
			before *= (room.X.High - room.X.Low + 1) * (room.Y.High - room.Y.Low + 1)
		}
		for _, cell := range append(list(-1), r.Perm(c.job.Wide*c.job.High)...) {
			if cell >= 0 {
				column, row := cell%c.job.Wide, cell/c.job.Wide
				seen = seenAt(seen, column, row, printed[row][column])
			}
			many, left, e := print.Can(c.job, c.rooms, seen)
			if many > before || many == 0 || e != api.OK || cell < 0 && many != before {
				t.Fatal(c, seen, many, before, e)
			}
			for plate, by := range shifts {
				if by.X < left[plate].X.Low || by.X > left[plate].X.High || by.Y < left[plate].Y.Low || by.Y > left[plate].Y.High {
					t.Error(c, seen, shifts, left)
				}
			}
			before = many
		}
	}
}

// leftAt returns the most truths that can be left after a look at a cell.
func leftAt(c roomed, seen []string, column, row int) int {
	most := 0
	for look := byte('0'); look <= '7'; look++ {
		many, _, _ := print.Can(c.job, c.rooms, seenAt(seen, column, row, look))
		most = max(most, many)
	}
	return most
}

// P6.12: after Look no more than most truths are left, whatever is seen; at any other cell something can be seen that leaves as many or more, and at one before it more.
func TestLookFollows(t *testing.T) {
	r := rand.New(rand.NewSource(17))
	for _, c := range someRoomed(18) {
		seen := pick(r, someSeen(t, r, c)...)
		column, row, most, e := print.Look(c.job, c.rooms, seen)
		if e != api.OK {
			continue
		}
		if left := leftAt(c, seen, column, row); seen[row][column] != '?' || left != most {
			t.Error(c, seen, column, row, most, left)
		}
		for cell := range c.job.Wide * c.job.High {
			otherColumn, otherRow := cell%c.job.Wide, cell/c.job.Wide
			if seen[otherRow][otherColumn] != '?' {
				continue
			}
			left := leftAt(c, seen, otherColumn, otherRow)
			if left < most || cell < row*c.job.Wide+column && left == most {
				t.Error(c, seen, column, row, most, cell, left)
			}
		}
	}
}
