package print

import (
	"iter"
	"math/bits"
	"slices"

	"testliner/api"
	"testliner/span"
)

// press is a job with the rooms of its plates. Its methods name cells by rows like those of a plate.
type press struct {
	api.PrintJob
	rooms []api.PrintRoom
}

// impression is what a plate prints by a shift.
type impression struct {
	api.PrintShift
	rows []int
}

// either, both and without join two rows to one of the cells that are in either of them, in both, or in the first one alone.
func either(a, b int) int { return a | b }

func both(a, b int) int { return a & b }

func without(a, b int) int { return a &^ b }

// joined returns what join makes of two lists of as many rows, row by row.
func joined(join func(a, b int) int, rows, others []int) []int {
	all := slices.Clone(rows)
	for y, row := range others {
		all[y] = join(all[y], row)
	}
	return all
}

// cells returns how many cells are in some rows.
func cells(rows ...int) int {
	many := 0
	for _, row := range rows {
		many += bits.OnesCount(uint(row))
	}
	return many
}

// shifts yields the shifts of a room.
func shifts(room api.PrintRoom) iter.Seq[api.PrintShift] {
	return func(yield func(api.PrintShift) bool) {
		for y := room.Y.Low; y <= room.Y.High; y++ {
			for x := room.X.Low; x <= room.X.High; x++ {
				if !yield(api.PrintShift{X: x, Y: y}) {
					return
				}
			}
		}
	}
}

// moved returns what some rows are after a shift.
func (p press) moved(by api.PrintShift, rows ...int) []int {
	after := make([]int, p.High)
	for y := range p.High {
		if from := y - by.Y; span.Within(0, p.High-1, from) {
			after[y] = p.along(by.X, rows[from])
		}
	}
	return after
}

// along returns what a row is after a shift by some columns.
func (p press) along(columns, row int) int {
	if columns < 0 {
		return row >> -columns
	}
	return row << columns & (1<<p.Wide - 1)
}

// impressions returns what a plate prints by each shift of its room.
func (p press) impressions(plate int) []impression {
	var all []impression
	for by := range shifts(p.rooms[plate]) {
		all = append(all, impression{by, p.moved(by, p.Plates[plate]...)})
	}
	return all
}

// over returns what join makes of all impressions of a plate.
func (p press) over(plate int, join func(a, b int) int) []int {
	all := p.impressions(plate)
	rows := all[0].rows
	for _, other := range all[1:] {
		rows = joined(join, rows, other.rows)
	}
	return rows
}

// show returns the looks of all cells by some shifts.
func (p press) show(shifts ...api.PrintShift) []string {
	var sheet []string
	for y := range p.High {
		looks := slices.Repeat([]byte{'0'}, p.Wide)
		for plate, by := range shifts {
			row := p.moved(by, p.Plates[plate]...)[y]
			for x := range looks {
				looks[x] += byte(row >> x & 1 << plate)
			}
		}
		sheet = append(sheet, string(looks))
	}
	return sheet
}

// design returns the cells that are printed if no plate is shifted.
func (p press) design() []int {
	rows := make([]int, p.High)
	for _, plate := range p.Plates {
		rows = joined(either, rows, plate)
	}
	return rows
}

// missed returns those of some cells that are in what join makes of the impressions of no plate.
func (p press) missed(rows []int, join func(a, b int) int) []int {
	for plate := range p.Plates {
		rows = joined(without, rows, p.over(plate, join))
	}
	return rows
}

// cross returns the cells that two plates can both print, but that the design does not have of both.
func (p press) cross(a, b int) []int {
	can := joined(both, p.over(a, either), p.over(b, either))
	return joined(without, can, joined(both, p.Plates[a], p.Plates[b]))
}

// spread returns the least number of times that a plate must be spread so that nothing of the design can be white, and its rows then, if there is such a number.
func (p press) spread(plate int) (times int, rows []int, found bool) {
	design := p.design()
	p.Plates = slices.Clone(p.Plates) // as the plate is replaced, but not in the job
	for times := range api.MaxPrintSpread + 1 {
		if cells(p.missed(design, both)...) == 0 {
			return times, slices.Clone(p.Plates[plate]), true
		}
		p.Plates[plate] = p.wider(p.Plates[plate]...)
	}
	return 0, nil, false
}

// wider returns what the rows of a plate are after it was spread once.
func (p press) wider(rows ...int) []int {
	wider := rows
	for _, by := range [4]api.PrintShift{{X: -1}, {X: 1}, {Y: -1}, {Y: 1}} {
		wider = joined(either, wider, p.moved(by, rows...))
	}
	return wider
}

// ink returns how many cells a plate prints on a sheet.
func (p press) ink(plate int) api.Span {
	ink := api.Span{Low: p.Wide * p.High, High: 0}
	for _, i := range p.impressions(plate) {
		many := cells(i.rows...)
		ink = api.Span{Low: min(ink.Low, many), High: max(ink.High, many)}
	}
	return ink
}
