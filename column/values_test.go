package column_test

import (
	"slices"
	"testing"

	"ephemerist/api"
	"ephemerist/column"
)

// P3.5
func TestBetween(t *testing.T) {
	const most, least = 1<<63 - 1, -1 << 63
	for i, x := range []struct {
		s    api.ColumnSheet
		row  int
		want api.Span
		e    api.Errno
	}{
		{sheetA(), 5, span(25, 25), api.OK}, {sheetB(), 2, span(0, 0), api.ErrNone}, {sheetD(), 4, span(16, 16), api.OK}, {sheetD(), 0, span(0, 0), api.OK}, {sheetD(), 2, span(4, 4), api.OK},
		// windows without the row do not matter
		{sheetA(), 0, span(0, 0), api.OK}, {sheetA(), 1, span(1, 1), api.OK}, {sheetA(), 4, span(0, 0), api.ErrNone}, {sheetB(), 5, span(36, 36), api.OK}, {sheetB(), 1, span(0, 0), api.ErrNone},
		// the least and the greatest value, of rows whose weight is more than 1, or less than 0
		{sheet(1, 0, 3, 5, 7, 20, 9, 11), 2, span(7, 9), api.OK}, {sheet(1, 0, 3, 5, 7, 20, 9, 11), 0, span(4, 7), api.OK}, {sheet(1, 0, 3, 5, 7, 20, 9, 11), 4, span(9, 12), api.OK},
		{sheet(2, 3, 4, 0, 0, 0), 1, span(-2, -2), api.OK}, {sheet(2, 3, 3, 0, 0, 0), 1, span(0, 0), api.ErrNone}, {sheet(2, 3, 6, 0, 0, 0), 1, span(-3, -2), api.OK}, {sheet(2, -4, -3, 0, 0, 0), 1, span(2, 2), api.OK}, {sheet(2, -5, 5, 0, 0, 0), 1, span(-2, 2), api.OK}, {sheet(2, -5, 5, 1, 0, 0), 1, span(-2, 3), api.OK},
		{sheet(3, 1, 2, 0, 0, 0, 0), 1, span(0, 0), api.ErrNone}, {sheet(3, 1, 3, 0, 0, 0, 0), 1, span(1, 1), api.OK}, {sheet(3, 1, 3, 0, 0, 0, 0), 2, span(-1, -1), api.OK}, {sheet(3, -7, 7, 0, 0, 0, 0), 2, span(-2, 2), api.OK}, {sheet(3, 5, 7, 0, 0, 0, 0), 0, span(-7, -5), api.OK}, {sheet(3, 5, 7, 0, 0, 0, 0), 3, span(5, 7), api.OK},
		// no further than a value can be
		{sheet(1, 4, 4, 7), 0, span(-9999, 9999), api.OK}, {sheet(3, 4, 4, 7, 7, 7), 1, span(-9999, 9999), api.OK}, {sheet(1, 0, 3, 9998, 0), 1, span(9998, 9999), api.OK}, {sheet(1, -3, 0, -9998, 0), 1, span(-9999, -9998), api.OK}, {sheet(1, 1, 3, 9999, 0), 1, span(0, 0), api.ErrNone}, {sheet(1, -3, -1, -9999, 0), 1, span(0, 0), api.ErrNone}, {sheet(1, -99999, 99999, 1, 2), 0, span(-9999, 9999), api.OK}, {sheet(1, 99999, 99999, 1, 2), 0, span(0, 0), api.ErrNone},
		// the value that a row has does not matter
		{sheet(1, 0, 3, 5, -9999, 9), 1, span(6, 8), api.OK},
		{sheetA(), 8, span(0, 0), api.ErrArg}, {sheetA(), -1, span(0, 0), api.ErrArg}, {sheetA(), most, span(0, 0), api.ErrArg}, {sheetA(), least, span(0, 0), api.ErrArg}, {sheet(1, 4, 4, 7), 1, span(0, 0), api.ErrArg},
	} {
		if got, e := column.Between(x.s, x.row); e != x.e || got != x.want {
			t.Error(i, got, e)
		}
	}
}

// P3.5: with a value that somebody proposes no window with the row jumps just if it lies between both.
func TestProposedValues(t *testing.T) {
	sheets(t, 300, func(t *testing.T, _ *dice, s api.ColumnSheet) {
		for row := range s.Values {
			want, many := valuesOf(s, row, func(x api.ColumnSheet) bool { return smoothIn(x, row-x.Order, row) })
			got, e := column.Between(s, row)
			if got != want || (e == api.OK) != (many > 0) || e != api.OK && e != api.ErrNone {
				t.Fatal(s, row, got, e, want)
			}
			if e == api.OK && many != got.High-got.Low+1 {
				t.Fatal("not each value between both", s, row, got, many)
			}
		}
	})
}

// P3.6
func TestSingle(t *testing.T) {
	for i, x := range []struct {
		s          api.ColumnSheet
		single     []api.ColumnFix
		row, value int
		e          api.Errno
	}{
		{sheetA(), fixes(5, 25, 25), 5, 25, api.OK}, {sheetB(), nil, 0, 0, api.ErrNone}, {sheetC(), nil, 0, 0, api.ErrNone},
		{sheetD(), fixes(0, 0, 0, 1, 1, 1, 2, 4, 4, 3, 9, 9, 4, 16, 16), 0, 0, api.ErrRule},
		{sheet(1, 0, 3, 5, 7, 20, 9, 11), fixes(2, 7, 9), 2, 9, api.OK}, {sheet(1, 0, 3, 5, 7, 2, 9, 11), fixes(2, 7, 9), 2, 7, api.OK},
		// of several changes the least one, and of two that are alike that of the first row
		{sheet(1, 0, 3, 0, 9), fixes(0, 6, 9, 1, 0, 3), 0, 6, api.OK}, {sheet(1, 0, 3, 9, 0), fixes(0, -3, 0, 1, 9, 12), 0, 0, api.OK}, {sheet(2, 0, 0, 0, 0, 4), fixes(0, -4, -4, 1, 2, 2, 2, 0, 0), 1, 2, api.OK}, {sheet(3, 0, 0, 0, 0, 0, 3), fixes(0, 3, 3, 1, -1, -1, 2, 1, 1, 3, 0, 0), 1, -1, api.OK}, {sheet(3, 0, 0, 0, 0, 0, 2), fixes(0, 2, 2, 3, 0, 0), 0, 2, api.OK},
		{sheet(1, 0, 3, 9998, 9990), fixes(0, 9987, 9990, 1, 9998, 9999), 0, 9990, api.OK}, {sheet(1, 2, 3, 9998, 9990), fixes(0, 9987, 9988), 0, 9988, api.OK},
		// no window
		{sheet(1, 4, 4, 7), fixes(0, -9999, 9999), 0, 0, api.ErrRule}, {sheet(3, 4, 4, 7, 8, 9), fixes(0, -9999, 9999, 1, -9999, 9999, 2, -9999, 9999), 0, 0, api.ErrRule},
		// of smooth columns each row, with the values that it can have
		{sheet(1, 0, 3, 2, 2, 5), fixes(0, -1, 2, 1, 2, 5, 2, 2, 5), 0, 0, api.ErrRule},
		{sheet(1, 99999, 99999, 7, 8), nil, 0, 0, api.ErrNone},
	} {
		if got, e := column.Single(x.s); e != api.OK || !slices.Equal(got, x.single) {
			t.Error("Single", i, got, e)
		}
		if row, value, e := column.Least(x.s); e != x.e || row != x.row || value != x.value {
			t.Error("Least", i, row, value, e)
		}
	}
}

// P3.7
func TestSwapsAndInsert(t *testing.T) {
	full := make([]int, 14)
	for i, x := range []struct {
		s      api.ColumnSheet
		swaps  []int
		insert []api.ColumnFix
	}{
		{sheetA(), nil, nil}, {sheetB(), nil, fixes(3, 9, 9)}, {sheetC(), list(2), nil}, {sheetD(), nil, fixes(0, 1, 1, 5, 25, 25)},
		// values that are alike are exchanged, too, and no window jumps after it
		{sheet(1, 0, 3, 2, 2, 5), list(0), fixes(0, -1, 2, 1, 2, 2, 2, 2, 5, 3, 5, 8)}, {sheet(1, 0, 3, 9, 8), list(0), nil}, {sheet(1, -3, 3, 9, 8), list(0), fixes(0, 6, 12, 1, 6, 11, 2, 5, 11)}, {sheet(1, 0, 3, 0, 6), nil, fixes(1, 3, 3)}, {sheet(1, 0, 3, 0, 7), nil, nil},
		// no window before, or after it
		{sheet(1, 0, 3, 9), nil, fixes(0, 6, 9, 1, 9, 12)}, {sheet(2, 0, 0, 7), nil, fixes(0, -9999, 9999, 1, -9999, 9999)}, {sheet(2, 4, 4, 7, 9), list(0), fixes(0, 9, 9, 1, 6, 6, 2, 15, 15)}, {sheet(3, 4, 4, 7, 9), list(0), fixes(0, -9999, 9999, 1, -9999, 9999, 2, -9999, 9999)},
		// a further value is no further than a value can be
		{sheet(1, 1, 3, 9997, 9999), nil, fixes(0, 9994, 9996, 1, 9998, 9998)}, {sheet(1, 1, 3, -9999, -9997), nil, fixes(1, -9998, -9998, 2, -9996, -9994)}, {sheet(1, 0, 0, -9999), nil, fixes(0, -9999, -9999, 1, -9999, -9999)},
		// a column with one row more than a sheet can have
		{sheet(1, 0, 0, full...), list(0, 1, 2, 3, 4, 5, 6, 7, 8, 9, 10, 11, 12), fixes(0, 0, 0, 1, 0, 0, 2, 0, 0, 3, 0, 0, 4, 0, 0, 5, 0, 0, 6, 0, 0, 7, 0, 0, 8, 0, 0, 9, 0, 0, 10, 0, 0, 11, 0, 0, 12, 0, 0, 13, 0, 0, 14, 0, 0)},
	} {
		if got, e := column.Swaps(x.s); e != api.OK || !slices.Equal(got, x.swaps) {
			t.Error("Swaps", i, got, e)
		}
		if got, e := column.Insert(x.s); e != api.OK || !slices.Equal(got, x.insert) {
			t.Error("Insert", i, got, e)
		}
	}
}

// P3.6, P3.7: all results are those of all values of all rows, and no change that somebody proposes is less.
func TestAllValues(t *testing.T) {
	sheets(t, 300, func(t *testing.T, _ *dice, s api.ColumnSheet) {
		single := singleOf(s)
		if got, e := column.Single(s); e != api.OK || !slices.Equal(got, single) {
			t.Error("Single", s, got, e, single)
		}
		row, value, e := leastOf(s, single)
		if r, v, f := column.Least(s); r != row || v != value || f != e {
			t.Error("Least", s, r, v, f, row, value, e)
		}
		if got, e := column.Swaps(s); e != api.OK || !slices.Equal(got, swapsOf(s)) {
			t.Error("Swaps", s, got, e, swapsOf(s))
		}
		if got, e := column.Insert(s); e != api.OK || !slices.Equal(got, insertOf(s)) {
			t.Error("Insert", s, got, e, insertOf(s))
		}
	})
}
