package column

import (
	"iter"

	"ephemerist/api"
)

// Wrong returns the first list of wrong rows.
func Wrong(s api.ColumnSheet) ([]int, api.Errno) {
	if !isSheet(s) {
		return nil, api.ErrArg
	}
	return measure(s).wrong()[0], api.OK
}

// Count returns how many lists of wrong rows there are.
func Count(s api.ColumnSheet) (int, api.Errno) {
	if !isSheet(s) {
		return 0, api.ErrArg
	}
	return len(measure(s).wrong()), api.OK
}

// Suspect returns whether each row is wrong.
func Suspect(s api.ColumnSheet) ([]api.ColumnWord, api.Errno) {
	if !isSheet(s) {
		return nil, api.ErrArg
	}
	all := measure(s).wrong()
	many := make([]int, len(s.Values))
	for _, list := range all {
		for _, row := range list {
			many[row]++
		}
	}
	suspect := make([]api.ColumnWord, len(s.Values))
	for row := range suspect {
		suspect[row] = wordOf(many[row], len(all))
	}
	return suspect, api.OK
}

// Proof returns the most windows that jump and are apart.
func Proof(s api.ColumnSheet) ([]int, api.Errno) {
	if !isSheet(s) {
		return nil, api.ErrArg
	}
	var proof []int
	free := 0
	// Of windows that have a row in common the first one also ends first, so
	// that with it no fewer are left that are apart from it.
	for _, window := range measure(s).jumps() {
		if window >= free {
			proof = append(proof, window)
			free = window + s.Order + 1
		}
	}
	return proof, api.OK
}

// wordOf returns how sure it is that a row is wrong which is in so many of all
// lists.
func wordOf(many, all int) api.ColumnWord {
	switch many {
	case 0:
		return api.ColumnNever
	case all:
		return api.ColumnSurely
	}
	return api.ColumnMay
}

// place is a row in a window.
type place struct{ window, row int }

// rowsOfJumps returns which rows are in which window that jumps.
func (t sheetWithDifferences) rowsOfJumps() map[place]bool {
	rows := map[place]bool{}
	for _, window := range t.jumps() {
		for at := range t.Order + 1 {
			rows[place{window, window + at}] = true
		}
	}
	return rows
}

// wrong returns all lists of wrong rows, in lexicographic order.
func (t sheetWithDifferences) wrong() [][]int {
	jumps, rows := t.jumps(), t.rowsOfJumps()
	var wrong [][]int
	// It ends, since each window has one of all rows together.
	for many := 0; len(wrong) == 0; many++ {
		for list := range lists(len(t.Values), many) {
			if meets(list, jumps, rows) {
				wrong = append(wrong, list)
			}
		}
	}
	return wrong
}

// meets tells whether each window that jumps has a row of a list.
func meets(list, jumps []int, rows map[place]bool) bool {
search:
	for _, window := range jumps {
		for _, row := range list {
			if rows[place{window, row}] {
				continue search
			}
		}
		return false
	}
	return true
}

// lists goes through all increasing lists of so many of some rows, in
// lexicographic order.
func lists(rows, many int) iter.Seq[[]int] {
	return func(yield func([]int) bool) {
		var fill func(list []int, from int) bool
		fill = func(list []int, from int) bool {
			if len(list) == many {
				return yield(list)
			}
			for row := from; row < rows; row++ {
				if !fill(with(list, row), row+1) {
					return false
				}
			}
			return true
		}
		fill(nil, 0)
	}
}

// with returns a list with one more row, in memory of its own.
func with(list []int, row int) []int {
	longer := make([]int, 0, len(list)+1)
	return append(append(longer, list...), row)
}
