package column_test

import (
	"math/bits"
	"slices"
	"testing"

	"ephemerist/api"
	"ephemerist/column"
	"ephemerist/trial"
)

// This file has a second way to each result: differences are summed with the
// numbers of Pascal's triangle, and all lists of rows, all lists of windows and
// all values of a row are gone through.

const (
	never  = api.ColumnNever
	may    = api.ColumnMay
	surely = api.ColumnSurely
)

func list(n ...int) []int { return trial.List(n...) }

func words(w ...api.ColumnWord) []api.ColumnWord { return trial.List(w...) }

func span(low, high int) api.Span { return api.Span{Low: low, High: high} }

func sheet(order, low, high int, values ...int) api.ColumnSheet {
	return api.ColumnSheet{Values: values, Order: order, Smooth: span(low, high)}
}

// fixes returns a fix for each row with its least and its greatest value.
func fixes(n ...int) []api.ColumnFix {
	var out []api.ColumnFix
	for i := 0; i < len(n); i += 3 {
		out = append(out, api.ColumnFix{Row: n[i], Values: span(n[i+1], n[i+2])})
	}
	return out
}

// sheetA to sheetD are the sheets of the chapter.
func sheetA() api.ColumnSheet { return sheet(2, 2, 2, 0, 1, 4, 9, 16, 26, 36, 49) }

func sheetB() api.ColumnSheet { return sheet(2, 2, 2, 0, 1, 4, 16, 25, 36) }

func sheetC() api.ColumnSheet { return sheet(2, 2, 2, 0, 1, 9, 4, 16, 25) }

func sheetD() api.ColumnSheet { return sheet(2, 2, 2, 0, 1, 4, 9, 16) }

func sameSheet(a, b api.ColumnSheet) bool {
	return slices.Equal(a.Values, b.Values) && a.Order == b.Order && a.Smooth == b.Smooth
}

// withValues returns a sheet with other values.
func withValues(s api.ColumnSheet, values []int) api.ColumnSheet {
	s.Values = values
	return s
}

// triangle has the numbers of Pascal's triangle.
var triangle = func() (t [14][14]int) {
	for i := range t {
		t[i][0] = 1
		for k := 1; k <= i; k++ {
			t[i][k] = t[i-1][k-1] + t[i-1][k]
		}
	}
	return t
}()

// differenceOf returns a difference of an order.
func differenceOf(values []int, order, at int) int {
	total := 0
	for k := range order + 1 {
		if (order-k)%2 == 0 {
			total += triangle[order][k] * values[at+k]
		} else {
			total -= triangle[order][k] * values[at+k]
		}
	}
	return total
}

func differencesOf(values []int, order int) []int {
	var out []int
	for at := range len(values) - order {
		out = append(out, differenceOf(values, order, at))
	}
	return out
}

// jumpsAt tells whether there is a window, and it jumps.
func jumpsAt(s api.ColumnSheet, at int) bool {
	if at < 0 || at >= len(s.Values)-s.Order {
		return false
	}
	n := differenceOf(s.Values, s.Order, at)
	return n < s.Smooth.Low || n > s.Smooth.High
}

func jumpsOf(s api.ColumnSheet) []int {
	var out []int
	for at := range s.Values {
		if jumpsAt(s, at) {
			out = append(out, at)
		}
	}
	return out
}

// smoothIn tells whether no window jumps from one to another one.
func smoothIn(s api.ColumnSheet, from, to int) bool {
	for at := from; at <= to; at++ {
		if jumpsAt(s, at) {
			return false
		}
	}
	return true
}

func smoothOf(s api.ColumnSheet) bool { return smoothIn(s, 0, len(s.Values)) }

// orderOf returns the least order that is smooth, or -1.
func orderOf(s api.ColumnSheet) int {
	for order := range s.Values {
		d := differencesOf(s.Values, order)
		if slices.Min(d) >= s.Smooth.Low && slices.Max(d) <= s.Smooth.High {
			return order
		}
	}
	return -1
}

// membersOf returns the numbers of the bits of a set.
func membersOf(set int) []int {
	var out []int
	for n := range 16 {
		if set>>n&1 == 1 {
			out = append(out, n)
		}
	}
	return out
}

// meetsOf tells whether each window that jumps has a row of a set.
func meetsOf(s api.ColumnSheet, jumps []int, set int) bool {
	for _, at := range jumps {
		if set>>at&(1<<(s.Order+1)-1) == 0 {
			return false
		}
	}
	return true
}

// wrongOf returns all lists of wrong rows.
func wrongOf(s api.ColumnSheet) [][]int {
	jumps := jumpsOf(s)
	fewest := len(s.Values)
	var out [][]int
	for set := range 1 << len(s.Values) {
		if many := bits.OnesCount(uint(set)); many <= fewest && meetsOf(s, jumps, set) {
			if many < fewest {
				fewest, out = many, nil
			}
			out = append(out, membersOf(set))
		}
	}
	slices.SortFunc(out, slices.Compare[[]int])
	return out
}

func suspectOf(s api.ColumnSheet) []api.ColumnWord {
	all := wrongOf(s)
	var out []api.ColumnWord
	for row := range s.Values {
		many := 0
		for _, l := range all {
			if slices.Contains(l, row) {
				many++
			}
		}
		switch {
		case many == 0:
			out = append(out, never)
		case many < len(all):
			out = append(out, may)
		default:
			out = append(out, surely)
		}
	}
	return out
}

func apartOf(s api.ColumnSheet, windows []int) bool {
	for i := 1; i < len(windows); i++ {
		if windows[i-1]+s.Order >= windows[i] {
			return false
		}
	}
	return true
}

func proofOf(s api.ColumnSheet) []int {
	jumps := jumpsOf(s)
	var out []int
	for set := range 1 << len(jumps) {
		var windows []int
		for _, i := range membersOf(set) {
			windows = append(windows, jumps[i])
		}
		better := len(windows) > len(out) || len(windows) == len(out) && slices.Compare(windows, out) < 0
		if better && apartOf(s, windows) {
			out = windows
		}
	}
	return out
}

// valuesOf returns the least and the greatest of all values of a row with which something is so, and how many there are.
func valuesOf(s api.ColumnSheet, row int, is func(api.ColumnSheet) bool) (api.Span, int) {
	other := withValues(s, slices.Clone(s.Values))
	out, many := api.Span{}, 0
	for value := -api.ColumnMost; value <= api.ColumnMost; value++ {
		other.Values[row] = value
		if !is(other) {
			continue
		}
		if many == 0 {
			out.Low = value
		}
		out.High = value
		many++
	}
	return out, many
}

func singleOf(s api.ColumnSheet) []api.ColumnFix {
	var out []api.ColumnFix
	for row := range s.Values {
		if values, many := valuesOf(s, row, smoothOf); many > 0 {
			out = append(out, api.ColumnFix{Row: row, Values: values})
		}
	}
	return out
}

// leastOf asks for all fixes of single rows.
func leastOf(s api.ColumnSheet, single []api.ColumnFix) (int, int, api.Errno) {
	if smoothOf(s) {
		return 0, 0, api.ErrRule
	}
	row, value, size, e := 0, 0, 1<<30, api.ErrNone
	for _, f := range single {
		for v := f.Values.Low; v <= f.Values.High; v++ {
			if differs := max(v-s.Values[f.Row], s.Values[f.Row]-v); differs < size {
				row, value, size, e = f.Row, v, differs, api.OK
			}
		}
	}
	return row, value, e
}

func swapsOf(s api.ColumnSheet) []int {
	var out []int
	for row := 1; row < len(s.Values); row++ {
		other := withValues(s, slices.Clone(s.Values))
		other.Values[row-1], other.Values[row] = s.Values[row], s.Values[row-1]
		if smoothOf(other) {
			out = append(out, row-1)
		}
	}
	return out
}

func insertOf(s api.ColumnSheet) []api.ColumnFix {
	var out []api.ColumnFix
	for row := range len(s.Values) + 1 {
		longer := withValues(s, slices.Concat(s.Values[:row], list(0), s.Values[row:]))
		if values, many := valuesOf(longer, row, smoothOf); many > 0 {
			out = append(out, api.ColumnFix{Row: row, Values: values})
		}
	}
	return out
}

type dice struct{ trial.Dice }

// smooth returns a sheet in which no window jumps.
func (d *dice) smooth() api.ColumnSheet {
	rows, order := d.From(1, api.ColumnRows), d.From(1, api.ColumnOrder)
	low := d.From(-6, 5)
	s := sheet(order, low, low+d.From(0, 2)*d.From(0, 2))
	state := list(d.From(-20, 20), d.From(-20, 20), d.From(-10, 10), 0)[:order]
	for range rows {
		s.Values = append(s.Values, state[0])
		state = append(state, d.From(s.Smooth.Low, s.Smooth.High))
		for k := range order {
			state[k] += state[k+1]
		}
		state = state[:order]
	}
	return withValues(s, d.moved(s.Values))
}

// moved adds the same number to all values, now and then so that one of them is as far as can be.
func (d *dice) moved(values []int) []int {
	by := d.From(-1000, 1000)
	switch d.From(0, 5) {
	case 0:
		by = api.ColumnMost - slices.Max(values)
	case 1:
		by = -api.ColumnMost - slices.Min(values)
	}
	var out []int
	for _, v := range values {
		out = append(out, v+by)
	}
	return out
}

// spoil makes one of the errors that are made in columns.
func (d *dice) spoil(values []int) []int {
	out := slices.Clone(values)
	row := d.From(0, len(out)-1)
	switch d.From(0, 5) {
	case 0:
		out[row] = min(max(out[row]+d.From(-9, 9), -api.ColumnMost), api.ColumnMost)
	case 1:
		out[row] = d.From(-api.ColumnMost, api.ColumnMost)
	case 2:
		out[0], out[row] = out[row], out[0]
	case 3:
		next := min(row+1, len(out)-1)
		out[row], out[next] = out[next], out[row]
	case 4:
		if len(out) > 1 {
			out = slices.Delete(out, row, row+1)
		}
	case 5:
		if len(out) < api.ColumnRows {
			out = slices.Insert(out, row, out[row])
		}
	}
	return out
}

// sheet returns a sheet with some errors, or now and then any one.
func (d *dice) sheet() api.ColumnSheet {
	s := d.smooth()
	for range d.From(0, 3) {
		s.Values = d.spoil(s.Values)
	}
	switch d.From(0, 9) {
	case 0:
		s.Smooth.Low = d.From(-api.ColumnFar, s.Smooth.High)
	case 1:
		s.Smooth.High = d.From(s.Smooth.Low, api.ColumnFar)
	case 2:
		s.Order = d.From(1, api.ColumnOrder)
	case 3:
		for row := range s.Values {
			s.Values[row] = d.From(-3, 3)
		}
	}
	return s
}

// sheets calls f with the chapter's sheets and with many others.
func sheets(t *testing.T, many int, f func(t *testing.T, d *dice, s api.ColumnSheet)) {
	t.Helper()
	d := &dice{}
	for _, s := range trial.List(sheetA(), sheetB(), sheetC(), sheetD()) {
		f(t, d, s)
	}
	for range many {
		if s := d.sheet(); !t.Failed() {
			f(t, d, s)
		}
	}
}

// badSheets are sheets that are not as defined, each in one way.
func badSheets() []api.ColumnSheet {
	const most, least = int(^uint(0) >> 1), -int(^uint(0)>>1) - 1
	return []api.ColumnSheet{
		{}, sheet(1, 0, 0), sheet(1, 0, 0, make([]int, 15)...), sheet(1, 0, 0, make([]int, 1000)...),
		sheet(1, 0, 0, 10000), sheet(1, 0, 0, -10000), sheet(1, 0, 0, 0, 0, 10000), sheet(1, 0, 0, 0, -10000, 0), sheet(1, 0, 0, most), sheet(1, 0, 0, least),
		sheet(0, 0, 0, 1), sheet(-1, 0, 0, 1), sheet(4, 0, 0, 1), sheet(4, 0, 0, 1, 2, 3, 4, 5), sheet(most, 0, 0, 1), sheet(least, 0, 0, 1, 2),
		sheet(1, 1, 0, 1), sheet(1, -1, -2, 1), sheet(1, 99999, -99999, 1), sheet(1, -100000, 0, 1), sheet(1, 0, 100000, 1), sheet(1, 100000, 100000, 1), sheet(1, -100000, -100000, 1), sheet(1, least, most, 1), sheet(1, most, least, 1),
	}
}

// TestBadSheets checks that each function refuses each sheet that is not as defined, with zero values beside the error (P3.1 to P3.8, P0.12).
func TestBadSheets(t *testing.T) {
	for i, s := range badSheets() {
		if e := column.Check(s); e != api.ErrArg {
			t.Error(i, e)
		}
		for name, call := range callsOf(s, 0, 0) {
			if zero, e := call(); !zero || e != api.ErrArg {
				t.Error(name, i, zero, e)
			}
		}
	}
}

// callsOf returns calls of all functions that have a sheet, each of which tells whether its result is zero.
func callsOf(s api.ColumnSheet, order, row int) map[string]func() (bool, api.Errno) {
	return map[string]func() (bool, api.Errno){
		"Differences": func() (bool, api.Errno) { x, e := column.Differences(s, order); return len(x) == 0, e },
		"Jumps":       func() (bool, api.Errno) { x, e := column.Jumps(s); return len(x) == 0, e },
		"Wide":        func() (bool, api.Errno) { x, e := column.Wide(s); return x == span(0, 0), e },
		"Order":       func() (bool, api.Errno) { x, e := column.Order(s); return x == 0, e },
		"Wrong":       func() (bool, api.Errno) { x, e := column.Wrong(s); return len(x) == 0, e },
		"Count":       func() (bool, api.Errno) { x, e := column.Count(s); return x == 0, e },
		"Suspect":     func() (bool, api.Errno) { x, e := column.Suspect(s); return len(x) == 0, e },
		"Proof":       func() (bool, api.Errno) { x, e := column.Proof(s); return len(x) == 0, e },
		"Between":     func() (bool, api.Errno) { x, e := column.Between(s, row); return x == span(0, 0), e },
		"Single":      func() (bool, api.Errno) { x, e := column.Single(s); return len(x) == 0, e },
		"Least":       func() (bool, api.Errno) { x, y, e := column.Least(s); return x == 0 && y == 0, e },
		"Swaps":       func() (bool, api.Errno) { x, e := column.Swaps(s); return len(x) == 0, e },
		"Insert":      func() (bool, api.Errno) { x, e := column.Insert(s); return len(x) == 0, e },
		"Print":       func() (bool, api.Errno) { x, e := column.Print(s); return x == "", e },
	}
}
