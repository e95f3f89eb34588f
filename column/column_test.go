package column_test

import (
	"slices"
	"testing"

	"ephemerist/api"
	"ephemerist/column"
)

// wave returns values that are as far from each other as can be.
func wave(rows int) []int {
	var out []int
	for row := range rows {
		out = append(out, api.ColumnMost*(1-2*(row%2)))
	}
	return out
}

// P3.1
func TestCheck(t *testing.T) {
	for i, s := range []api.ColumnSheet{
		sheetA(), sheetB(), sheetC(), sheetD(), sheet(1, 0, 0, 0), sheet(3, 0, 0, 0), sheet(1, 0, 0, 9999), sheet(1, 0, 0, -9999), sheet(2, 5, 5, wave(14)...),
		sheet(1, -99999, 99999, 1), sheet(1, -99999, -99999, 1), sheet(1, 99999, 99999, 1), sheet(3, -1, 0, make([]int, 14)...),
	} {
		if e := column.Check(s); e != api.OK {
			t.Error(i, e)
		}
	}
}

// P3.1
func TestDifferences(t *testing.T) {
	const most, least = 1<<63 - 1, -1 << 63
	for i, x := range []struct {
		s     api.ColumnSheet
		order int
		want  []int
		e     api.Errno
	}{
		{sheetA(), 1, list(1, 3, 5, 7, 10, 10, 13), api.OK}, {sheetA(), 2, list(2, 2, 2, 3, 0, 3), api.OK}, {sheetA(), 0, list(0, 1, 4, 9, 16, 26, 36, 49), api.OK},
		// also of orders that no sheet has
		{sheetA(), 4, list(0, 1, -4, 6), api.OK}, {sheetA(), 7, list(21), api.OK}, {sheetD(), 4, list(0), api.OK}, {sheet(1, 0, 0, wave(14)...), 13, list(-9999 * 8192), api.OK}, {sheet(1, 0, 0, wave(14)...), 12, list(9999*4096, -9999*4096), api.OK},
		{sheet(3, 0, 0, 7), 0, list(7), api.OK}, {sheet(3, 0, 0, 7), 1, nil, api.ErrArg}, {sheet(3, 0, 0, 7, 3), 1, list(-4), api.OK},
		{sheetA(), 8, nil, api.ErrArg}, {sheetA(), -1, nil, api.ErrArg}, {sheetA(), most, nil, api.ErrArg}, {sheetA(), least, nil, api.ErrArg}, {sheetD(), 5, nil, api.ErrArg},
	} {
		if got, e := column.Differences(x.s, x.order); e != x.e || !slices.Equal(got, x.want) {
			t.Error(i, got, e)
		}
	}
}

// P3.1: those of each order are the differences of the order before.
func TestDifferencesOfDifferences(t *testing.T) {
	sheets(t, 2000, func(t *testing.T, _ *dice, s api.ColumnSheet) {
		want := slices.Clone(s.Values)
		for order := range s.Values {
			if got, e := column.Differences(s, order); e != api.OK || !slices.Equal(got, want) || !slices.Equal(got, differencesOf(s.Values, order)) {
				t.Fatal(s, order, got, e, want)
			}
			for i := range len(want) - 1 {
				want[i] = want[i+1] - want[i]
			}
			want = want[:len(want)-1]
		}
	})
}

// P3.2
func TestJumps(t *testing.T) {
	for i, x := range []struct {
		s     api.ColumnSheet
		jumps []int
		wide  api.Span
		e     api.Errno
	}{
		{sheetA(), list(3, 4, 5), span(0, 3), api.OK}, {sheetB(), list(1, 2), span(-3, 9), api.OK}, {sheetC(), list(0, 1, 2, 3), span(-13, 17), api.OK}, {sheetD(), nil, span(2, 2), api.OK},
		// both ends are within Smooth
		{sheet(1, -2, 3, 0, 3, 1), nil, span(-2, 3), api.OK}, {sheet(1, -2, 3, 0, 4, 1), list(0, 1), span(-3, 4), api.OK}, {sheet(1, -2, 3, 0, 4, 2), list(0), span(-2, 4), api.OK}, {sheet(1, -2, 3, 0, 3, 0), list(1), span(-3, 3), api.OK},
		// no window, and one
		{sheet(1, 5, 5, 7), nil, span(0, 0), api.ErrNone}, {sheet(2, 5, 5, 7, 9), nil, span(0, 0), api.ErrNone}, {sheet(3, 5, 5, 7, 9, 0), nil, span(0, 0), api.ErrNone}, {sheet(3, 5, 5, 0, 0, 0, 5), nil, span(5, 5), api.OK}, {sheet(3, 5, 5, 0, 0, 0, -6), list(0), span(-6, -6), api.OK}, {sheet(1, 0, 0, 4, 4), nil, span(0, 0), api.OK},
		{sheet(3, -79992, 79992, wave(14)...), nil, span(-79992, 79992), api.OK}, {sheet(3, -79992, 79991, wave(8)...), list(1, 3), span(-79992, 79992), api.OK},
	} {
		if got, e := column.Jumps(x.s); e != api.OK || !slices.Equal(got, x.jumps) {
			t.Error(i, got, e)
		}
		if got, e := column.Wide(x.s); e != x.e || got != x.wide {
			t.Error(i, got, e)
		}
	}
}

// P3.2
func TestOrder(t *testing.T) {
	for i, x := range []struct {
		s    api.ColumnSheet
		want int
		e    api.Errno
	}{
		{sheetD(), 2, api.OK}, {sheetA(), 0, api.ErrNone}, {sheet(2, 0, 16, 0, 1, 4, 9, 16), 0, api.OK}, {sheet(2, 0, 15, 0, 1, 4, 9, 16), 1, api.OK}, {sheet(2, 1, 7, 0, 1, 4, 9, 16), 1, api.OK}, {sheet(2, 1, 6, 0, 1, 4, 9, 16), 2, api.OK},
		// the Order of the sheet does not matter, and the least order can be one that no sheet has
		{sheet(1, 2, 2, 0, 1, 4, 9, 16), 2, api.OK}, {sheet(3, 2, 2, 0, 1, 4, 9, 16), 2, api.OK}, {sheet(1, 24, 24, 0, 1, 16, 81, 256), 4, api.OK}, {sheet(1, 24, 24, 0, 1, 16, 81, 256, 625), 4, api.OK}, {sheet(1, 24, 24, 0, 1, 16, 81, 257), 0, api.ErrNone}, {sheet(1, 0, 0, 1, 2, 3, 4, 5, 6), 2, api.OK}, {sheet(1, -99999, -40955, wave(14)[:13]...), 0, api.ErrNone},
		{sheet(3, 7, 7, 7), 0, api.OK}, {sheet(3, 6, 6, 7), 0, api.ErrNone}, {sheet(2, 2, 2, 5, 7), 1, api.OK}, {sheet(2, 3, 3, 5, 7), 0, api.ErrNone},
	} {
		if got, e := column.Order(x.s); e != x.e || got != x.want {
			t.Error(i, got, e)
		}
	}
}

// P3.2: with a Smooth that somebody proposes no window jumps just if it has both ends.
func TestProposedSmooth(t *testing.T) {
	sheets(t, 3000, func(t *testing.T, d *dice, s api.ColumnSheet) {
		jumps, e := column.Jumps(s)
		if e != api.OK || !slices.Equal(jumps, jumpsOf(s)) {
			t.Fatal("Jumps", s, jumps, e)
		}
		if order, e := column.Order(s); order != max(orderOf(s), 0) || (e == api.ErrNone) != (orderOf(s) < 0) {
			t.Fatal("Order", s, order, e)
		}
		wide, e := column.Wide(s)
		if e != api.OK {
			if e != api.ErrNone || len(s.Values) > s.Order {
				t.Fatal("Wide", s, e)
			}
			return
		}
		for range 5 {
			s.Smooth.Low = max(wide.Low+d.From(-1, 1), -api.ColumnFar)
			s.Smooth.High = min(max(wide.High+d.From(-1, 1), s.Smooth.Low), api.ColumnFar)
			has := s.Smooth.Low <= wide.Low && wide.High <= s.Smooth.High
			if jumps, e := column.Jumps(s); e != api.OK || has != (len(jumps) == 0) {
				t.Fatal("Smooth", s, wide, jumps, e)
			}
		}
	})
}
