package print

import (
	"slices"

	"testliner/api"
)

// nobody is what a sheet that was seen has where nobody has looked.
const nobody = '?'

// where returns the cells of a sheet that was seen of which the looks fulfil a condition.
func where(holds func(look byte) bool, seen ...string) []int {
	rows := make([]int, len(seen))
	for y := range seen {
		for x, look := range []byte(seen[y]) {
			if holds(look) {
				rows[y] |= 1 << x
			}
		}
	}
	return rows
}

// causes returns for each plate the impressions that fit a sheet that was seen. As a look says of each plate whether it prints the cell, truths that fit are all choices of one of them for each plate.
func (p press) causes(seen ...string) [][]impression {
	looked := where(func(look byte) bool { return look != nobody }, seen...)
	// A look with more plates than there are fits nothing.
	odd := where(func(look byte) bool { return look != nobody && (look-'0')>>len(p.Plates) > 0 }, seen...)
	var causes [][]impression
	for plate := range p.Plates {
		printed := where(func(look byte) bool { return look != nobody && (look-'0')>>plate&1 == 1 }, seen...)
		causes = append(causes, slices.DeleteFunc(p.impressions(plate), func(i impression) bool {
			return cells(odd...) > 0 || !slices.Equal(joined(both, i.rows, looked), printed)
		}))
	}
	return causes
}

// truths returns how many truths some impressions of each plate make.
func truths(causes ...[]impression) int {
	many := 1
	for _, some := range causes {
		many *= len(some)
	}
	return many
}

// around returns the smallest room of the shifts of some impressions.
func around(some ...impression) api.PrintRoom {
	room := api.PrintRoom{
		X: api.Span{Low: api.MaxPrintShift, High: -api.MaxPrintShift},
		Y: api.Span{Low: api.MaxPrintShift, High: -api.MaxPrintShift},
	}
	for _, i := range some {
		room.X = api.Span{Low: min(room.X.Low, i.X), High: max(room.X.High, i.X)}
		room.Y = api.Span{Low: min(room.Y.Low, i.Y), High: max(room.Y.High, i.Y)}
	}
	return room
}

// nextCell returns the first cell where nobody has looked at which the fewest truths can have the same look, and how many; it is the number of all truths if there is no cell with fewer.
func nextCell(seen []string, causes ...[]impression) (column, row, most int) {
	most = truths(causes...)
	for y := range seen {
		for x, look := range []byte(seen[y]) {
			if same := alike(x, y, causes...); look == nobody && same < most {
				column, row, most = x, y, same
			}
		}
	}
	return column, row, most
}

// alike returns how many truths have the same look at a cell at most.
func alike(x, y int, causes ...[]impression) int {
	most := 1
	for _, some := range causes {
		printed := 0
		for _, i := range some {
			printed += i.rows[y] >> x & 1
		}
		most *= max(printed, len(some)-printed)
	}
	return most
}
