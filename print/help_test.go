package print_test

import (
	"math/rand"
	"slices"
	"testing"

	"testliner/api"
	"testliner/print"
)

// to returns a span, job a job with some plates, room a room of a plate, x one without shifts by rows, y one without shifts by columns, and list a list.
func to(low, high int) api.Span { return api.Span{Low: low, High: high} }

func job(wide, high int, plates ...[]int) api.PrintJob {
	return api.PrintJob{Wide: wide, High: high, Plates: plates}
}

func room(x, y api.Span) api.PrintRoom { return api.PrintRoom{X: x, Y: y} }

func x(low, high int) api.PrintRoom { return api.PrintRoom{X: to(low, high)} }

func y(low, high int) api.PrintRoom { return api.PrintRoom{Y: to(low, high)} }

func list[E any](elements ...E) []E { return elements }

// chapterJob is the job of the chapter's examples, chapterRooms its rooms.
func chapterJob() api.PrintJob { return job(4, 2, list(3, 3), list(12, 12)) }

func chapterRooms() []api.PrintRoom { return list(x(0, 0), x(0, 1)) }

// dot is a job with one cell in the middle, free a room with all shifts.
func dot(wide, high int) api.PrintJob {
	rows := make([]int, high)
	rows[high/2] = 1 << (wide / 2)
	return job(wide, high, rows)
}

func free() api.PrintRoom { return room(to(-2, 2), to(-2, 2)) }

// some returns a number from low to high, pick one of some.
func some(r *rand.Rand, low, high int) int { return low + r.Intn(high-low+1) }

func pick[E any](r *rand.Rand, list ...E) E { return list[r.Intn(len(list))] }

// someRows returns the rows of a plate: a block of cells, or any cells, from few to many.
func someRows(r *rand.Rand, wide, high int) []int {
	rows := make([]int, high)
	chance := pick(r, 0, 10, 30, 50, 80, 100)
	left, right := some(r, 0, wide-1), some(r, 0, wide-1)
	top, bottom := some(r, 0, high-1), some(r, 0, high-1)
	block := r.Intn(2) == 0
	for row := range high {
		for column := range wide {
			inside := column >= left && column <= right && row >= top && row <= bottom
			if block && inside || !block && r.Intn(100) < chance {
				rows[row] |= 1 << column
			}
		}
	}
	return rows
}

// someJob returns a job that is at most so wide and so high.
func someJob(r *rand.Rand, wide, high int) api.PrintJob {
	j := job(some(r, 1, wide), some(r, 1, high))
	for range some(r, 1, 3) {
		j.Plates = append(j.Plates, someRows(r, j.Wide, j.High))
	}
	return j
}

// someSpan returns a span of shifts with at most so many more than one.
func someSpan(r *rand.Rand, more int) api.Span {
	low := some(r, -2, 2)
	return to(low, min(2, low+r.Intn(more+1)))
}

// someRooms returns rooms of a job, each with spans of at most so many more than one shift.
func someRooms(r *rand.Rand, j api.PrintJob, more int) []api.PrintRoom {
	var rooms []api.PrintRoom
	for range j.Plates {
		rooms = append(rooms, room(someSpan(r, more), someSpan(r, more)))
	}
	return rooms
}

// someShifts returns a truth.
func someShifts(r *rand.Rand, rooms []api.PrintRoom) []api.PrintShift {
	var shifts []api.PrintShift
	for _, room := range rooms {
		shifts = append(shifts, api.PrintShift{X: some(r, room.X.Low, room.X.High), Y: some(r, room.Y.Low, room.Y.High)})
	}
	return shifts
}

// allTruths returns all truths.
func allTruths(rooms []api.PrintRoom) [][]api.PrintShift {
	truths := list[[]api.PrintShift](nil)
	for _, room := range rooms {
		var longer [][]api.PrintShift
		for _, shifts := range truths {
			for x := room.X.Low; x <= room.X.High; x++ {
				for y := room.Y.Low; y <= room.Y.High; y++ {
					longer = append(longer, append(slices.Clone(shifts), api.PrintShift{X: x, Y: y}))
				}
			}
		}
		truths = longer
	}
	return truths
}

// has reports whether rows have a cell, which can lie beside the sheet.
func has(rows []int, column, row int) bool {
	return row >= 0 && row < len(rows) && column >= 0 && rows[row]>>column&1 == 1
}

// looks returns the looks of all cells, row by row, by some shifts, by where each cell comes from.
func looks(j api.PrintJob, shifts []api.PrintShift) []int {
	var all []int
	for row := range j.High {
		for column := range j.Wide {
			look := 0
			for k, rows := range j.Plates {
				if has(rows, column-shifts[k].X, row-shifts[k].Y) {
					look += []int{1, 2, 4}[k]
				}
			}
			all = append(all, look)
		}
	}
	return all
}

// allLooks returns the looks in all truths.
func allLooks(j api.PrintJob, rooms []api.PrintRoom) [][]int {
	var all [][]int
	for _, shifts := range allTruths(rooms) {
		all = append(all, looks(j, shifts))
	}
	return all
}

// design returns the looks of the design.
func design(j api.PrintJob) []int { return looks(j, make([]api.PrintShift, len(j.Plates))) }

// rowsOf returns rows of those cells, row by row, that fulfil a condition.
func rowsOf(j api.PrintJob, holds func(cell int) bool) []int {
	rows := make([]int, j.High)
	for cell := range j.Wide * j.High {
		if holds(cell) {
			rows[cell/j.Wide] += []int{1, 2, 4, 8, 16, 32, 64, 128, 256, 512}[cell%j.Wide]
		}
	}
	return rows
}

// trueWhite returns the cells of a design that are white in some truth, and in all.
func trueWhite(j api.PrintJob, rooms []api.PrintRoom, design []int) (possibly, surely []int) {
	all := allLooks(j, rooms)
	possibly = rowsOf(j, func(cell int) bool {
		return design[cell] > 0 && slices.ContainsFunc(all, func(looks []int) bool { return looks[cell] == 0 })
	})
	surely = rowsOf(j, func(cell int) bool {
		return design[cell] > 0 && !slices.ContainsFunc(all, func(looks []int) bool { return looks[cell] > 0 })
	})
	return possibly, surely
}

// trueSpread returns the rows of a plate after it was spread once, cell by cell.
func trueSpread(j api.PrintJob, rows []int) []int {
	return rowsOf(j, func(cell int) bool {
		column, row := cell%j.Wide, cell/j.Wide
		return has(rows, column, row) || has(rows, column-1, row) || has(rows, column+1, row) || has(rows, column, row-1) || has(rows, column, row+1)
	})
}

// with returns a job with another plate.
func with(j api.PrintJob, plate int, rows []int) api.PrintJob {
	j.Plates = slices.Clone(j.Plates)
	j.Plates[plate] = rows
	return j
}

// sheet returns looks as a sheet, with a ? where a cell is hidden.
func sheet(j api.PrintJob, looks []int, hidden func(cell int) bool) []string {
	seen := make([]string, j.High)
	for cell, look := range looks {
		if hidden(cell) {
			seen[cell/j.Wide] += "?"
		} else {
			seen[cell/j.Wide] += string(rune('0' + look))
		}
	}
	return seen
}

// hide returns a condition on cells that holds by chance.
func hide(r *rand.Rand) func(cell int) bool {
	chance := pick(r, 0, 50, 80, 100)
	return func(int) bool { return r.Intn(100) < chance }
}

// fits reports whether looks fit a sheet that was seen.
func fits(j api.PrintJob, looks []int, seen []string) bool {
	for cell, look := range looks {
		if c := seen[cell/j.Wide][cell%j.Wide]; c != '?' && int(c-'0') != look {
			return false
		}
	}
	return true
}

// fitting returns the truths that fit a sheet that was seen.
func fitting(j api.PrintJob, rooms []api.PrintRoom, seen []string) [][]api.PrintShift {
	return slices.DeleteFunc(allTruths(rooms), func(shifts []api.PrintShift) bool { return !fits(j, looks(j, shifts), seen) })
}

// show returns the sheet that is printed by shifts that are valid.
func show(t *testing.T, j api.PrintJob, shifts []api.PrintShift) []string {
	t.Helper()
	seen, e := print.Show(j, shifts)
	if e != api.OK {
		t.Fatal(j, shifts, e)
	}
	return seen
}

// many returns how many cells are in rows.
func many(rows []int) int {
	n := 0
	for _, row := range rows {
		for column := range 10 {
			n += row >> column & 1
		}
	}
	return n
}

// within reports whether the cells of rows are among those of others.
func within(rows, others []int) bool {
	for i, row := range rows {
		for column := range 10 {
			if has(rows, column, i) && !has(others, column, i) {
				return false
			}
		}
		if row < 0 {
			return false
		}
	}
	return len(rows) == len(others)
}
