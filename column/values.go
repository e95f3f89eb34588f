package column

import (
	"slices"

	"ephemerist/api"
	"ephemerist/reckon"
)

// Between returns between which values a row can be.
func Between(s api.ColumnSheet, row int) (api.Span, api.Errno) {
	if !isSheet(s) || !isRow(s, row) {
		return api.Span{}, api.ErrArg
	}
	values := between(s, row)
	if values.Low > values.High {
		return api.Span{}, api.ErrNone
	}
	return values, api.OK
}

// Single returns all rows of which a change is enough.
func Single(s api.ColumnSheet) ([]api.ColumnFix, api.Errno) {
	if !isSheet(s) {
		return nil, api.ErrArg
	}
	var fixes []api.ColumnFix
	for row := range s.Values {
		if fix, is := fixOf(s, row); is {
			fixes = append(fixes, fix)
		}
	}
	return fixes, api.OK
}

// Least returns the least change of a row that is enough.
func Least(s api.ColumnSheet) (int, int, api.Errno) {
	fixes, e := Single(s)
	switch {
	case e != api.OK:
		return 0, 0, e
	case isSmooth(s):
		return 0, 0, api.ErrRule
	case len(fixes) == 0:
		return 0, 0, api.ErrNone
	}
	var changes []change
	for _, f := range fixes {
		was := s.Values[f.Row]
		value := min(max(was, f.Values.Low), f.Values.High)
		changes = append(changes, change{f.Row, value, max(value-was, was-value)})
	}
	least := reckon.Best(changes, func(a, b change) bool { return a.size < b.size })
	return least.row, least.value, api.OK
}

// Swaps returns all rows that can be exchanged with the next one.
func Swaps(s api.ColumnSheet) ([]int, api.Errno) {
	if !isSheet(s) {
		return nil, api.ErrArg
	}
	var rows []int
	for row := range len(s.Values) - 1 {
		if isSmooth(exchanged(s, row)) {
			rows = append(rows, row)
		}
	}
	return rows, api.OK
}

// Insert returns all rows before which a row can have been skipped.
func Insert(s api.ColumnSheet) ([]api.ColumnFix, api.Errno) {
	if !isSheet(s) {
		return nil, api.ErrArg
	}
	var fixes []api.ColumnFix
	for row := range len(s.Values) + 1 {
		if fix, is := fixOf(withMore(s, row), row); is {
			fixes = append(fixes, fix)
		}
	}
	return fixes, api.OK
}

// change is another value of a row, which differs by a size from its own.
type change struct {
	row   int
	value int
	size  int
}

// fixOf returns the values of a row with which no window jumps, or false if
// there are none.
func fixOf(s api.ColumnSheet, row int) (api.ColumnFix, bool) {
	values := between(s, row)
	// The windows that do not have the row jump with each value, or with none.
	is := values.Low <= values.High && isSmooth(withValue(s, row, values.Low))
	return api.ColumnFix{Row: row, Values: values}, is
}

// between returns the least and the greatest value of a row with which none of
// its windows jumps; the least one is greater if there is none.
func between(s api.ColumnSheet, row int) api.Span {
	values := api.Span{Low: -api.ColumnMost, High: api.ColumnMost}
	for window := range measure(s).windows() {
		if reckon.Within(row, window, window+s.Order) {
			w := wishOf(s, window, row)
			ends := [...]func() int{w.least, w.greatest}
			values = api.Span{Low: max(values.Low, ends[0]()), High: min(values.High, ends[1]())}
		}
	}
	return values
}

// wish is what a window asks of the value of one of its rows: so many times
// the value, which is more than 0, and a rest together are smooth.
type wish struct {
	times  int
	rest   int
	smooth api.Span
}

func (w wish) least() int { return -reckon.Quotient(w.rest-w.smooth.Low, w.times) }

func (w wish) greatest() int { return reckon.Quotient(w.smooth.High-w.rest, w.times) }

func wishOf(s api.ColumnSheet, window, row int) wish {
	var others []int
	for at := range s.Order + 1 {
		if window+at != row {
			others = append(others, weight(s.Order, at)*s.Values[window+at])
		}
	}
	w := wish{weight(s.Order, row-window), reckon.Sum(others...), s.Smooth}
	if w.times < 0 {
		return wish{-w.times, -w.rest, api.Span{Low: -w.smooth.High, High: -w.smooth.Low}}
	}
	return w
}

// weight returns how many times a value is in the difference of a window of an
// order, in which it has a place from 0 on.
func weight(order, at int) int {
	switch {
	case !reckon.Within(at, 0, order):
		return 0
	case order == 0:
		return 1
	}
	return weight(order-1, at-1) - weight(order-1, at)
}

// withValue returns a sheet with another value of a row.
func withValue(s api.ColumnSheet, row, value int) api.ColumnSheet {
	s.Values = slices.Clone(s.Values)
	s.Values[row] = value
	return s
}

// withMore returns a sheet with one row more before a row.
func withMore(s api.ColumnSheet, row int) api.ColumnSheet {
	s.Values = slices.Insert(slices.Clone(s.Values), row, 0)
	return s
}

// exchanged returns a sheet in which a row and the next one have exchanged
// their values.
func exchanged(s api.ColumnSheet, row int) api.ColumnSheet {
	s.Values = slices.Clone(s.Values)
	s.Values[row], s.Values[row+1] = s.Values[row+1], s.Values[row]
	return s
}
