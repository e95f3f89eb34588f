package hands_test

import (
	"fmt"
	"slices"
	"strconv"
	"testing"

	"ephemerist/api"
	"ephemerist/hands"
	"ephemerist/trial"
)

// This file has a second way to each result: right columns are gone through
// from the first row on, with each number that there is, and what can be
// written for a number is read from its figures.

const (
	turned = api.HandsTurned
	carry  = api.HandsCarry
	sign   = api.HandsSign
	line   = api.HandsLine

	never  = api.HandsNever
	may    = api.HandsMay
	surely = api.HandsSurely
)

func list(n ...int) []int { return trial.List(n...) }

func words(w ...api.HandsWord) []api.HandsWord { return trial.List(w...) }

func sheet(errors []int, columns ...[]int) api.HandsSheet {
	return api.HandsSheet{Columns: columns, Errors: errors}
}

// sheetA to sheetD are the sheets of the chapter.
func sheetA() api.HandsSheet {
	return sheet(list(1, 1), list(123, 45, -60, 7), list(132, 45, 60, 7))
}

func sheetB() api.HandsSheet {
	return sheet(list(1, 1, 0), list(123, 45, -60, 7), list(132, 45, 60, 7), list(123, 45, 60, 7))
}

func sheetC() api.HandsSheet {
	return sheet(list(0, 1), list(123, 45, -60, 7), list(132, 45, 60, 7))
}

func sheetD() api.HandsSheet { return sheet(list(1), list(7, 7)) }

func copyOf(s api.HandsSheet) api.HandsSheet {
	c := api.HandsSheet{Errors: slices.Clone(s.Errors)}
	for _, column := range s.Columns {
		c.Columns = append(c.Columns, slices.Clone(column))
	}
	return c
}

func sameSheet(a, b api.HandsSheet) bool {
	return slices.Equal(a.Errors, b.Errors) && slices.EqualFunc(a.Columns, b.Columns, slices.Equal[[]int])
}

func without(s api.HandsSheet, hand int) api.HandsSheet {
	c := copyOf(s)
	c.Columns, c.Errors = slices.Delete(c.Columns, hand, hand+1), slices.Delete(c.Errors, hand, hand+1)
	return c
}

// slips returns what can be written for a number without a look at its next row, with the first kind.
func slips(n int) map[int]api.HandsKind {
	figures := fmt.Sprintf("%03d", max(n, -n))
	out := map[int]api.HandsKind{}
	write := func(figures string, kind api.HandsKind) {
		m, _ := strconv.Atoi(figures)
		if n < 0 {
			m = -m
		}
		if _, before := out[m]; !before && m != n {
			out[m] = kind
		}
	}
	write(figures[1:2]+figures[0:1]+figures[2:3], turned)
	write(figures[0:1]+figures[2:3]+figures[1:2], turned)
	for i := range 2 {
		if figures[i] > '0' {
			write(figures[:i]+string(figures[i]-1)+figures[i+1:], carry)
		}
	}
	if _, before := out[-n]; !before && n != 0 {
		out[-n] = sign
	}
	return out
}

// allSlips are the slips of all numbers from -999 on.
var allSlips = func() (all []map[int]api.HandsKind) {
	for n := -999; n <= 999; n++ {
		all = append(all, slips(n))
	}
	return all
}()

// errorsOf returns the errors of a copy, or false.
func errorsOf(right, copied []int) ([]api.HandsError, bool) {
	var out []api.HandsError
	for row, n := range copied {
		if n == right[row] {
			continue
		}
		kind, is := slips(right[row])[n]
		if !is && row+1 < len(right) && right[row+1] == n {
			kind, is = line, true
		}
		if !is {
			return nil, false
		}
		out = append(out, api.HandsError{Row: row, Kind: kind})
	}
	return out, true
}

func agreesOf(s api.HandsSheet, right []int) bool {
	for hand, column := range s.Columns {
		if made, is := errorsOf(right, column); !is || len(made) > s.Errors[hand] {
			return false
		}
	}
	return true
}

// facts are what is true of all right columns of a sheet, or of the first most of them.
type facts struct {
	sheet api.HandsSheet
	most  int
	many  int
	has   [6][1999]bool
	first []int
	least int
	wrong [3][6]int
	hands [3]int
}

// copying is how far the hands have come in a column: the errors that are left to each of them, and who owes the line that it skipped.
type copying struct {
	left [3]int
	owes [3]bool
}

func factsOf(s api.HandsSheet, most int) *facts {
	f := &facts{sheet: s, most: most}
	var c copying
	copy(c.left[:], s.Errors)
	f.walk(make([]int, len(s.Columns[0])), 0, c)
	return f
}

// walk goes on from a row.
func (f *facts) walk(right []int, row int, c copying) {
	if row == len(right) {
		if c.owes == [3]bool{} {
			f.add(right, c.left[:])
		}
		return
	}
	low, high := -999, 999
	for hand, column := range f.sheet.Columns {
		if c.owes[hand] {
			low, high = column[row-1], column[row-1]
		} else if c.left[hand] == 0 {
			low, high = column[row], column[row]
		}
	}
	for right[row] = low; right[row] <= high && f.many < f.most; right[row]++ {
		if next, can := f.after(right[row], row, c); can {
			f.walk(right, row+1, next)
		}
	}
}

func (f *facts) after(n, row int, c copying) (copying, bool) {
	for hand, column := range f.sheet.Columns {
		if c.owes[hand] && column[row-1] != n {
			return c, false
		}
		c.owes[hand] = false
		if column[row] == n {
			continue
		}
		if c.left[hand]--; c.left[hand] < 0 {
			return c, false
		}
		_, is := allSlips[n+999][column[row]]
		c.owes[hand] = !is
	}
	return c, true
}

func (f *facts) add(right, left []int) {
	made := 0
	for hand, column := range f.sheet.Columns {
		made += f.sheet.Errors[hand] - left[hand]
		if !slices.Equal(column, right) {
			f.hands[hand]++
		}
		for row, n := range right {
			if column[row] != n {
				f.wrong[hand][row]++
			}
		}
	}
	if f.many == 0 {
		f.first, f.least = slices.Clone(right), made
	}
	if slices.Compare(right, f.first) < 0 {
		f.first = slices.Clone(right)
	}
	f.least = min(f.least, made)
	for row, n := range right {
		f.has[row][n+999] = true
	}
	f.many++
}

func (f *facts) rows() int { return len(f.sheet.Columns[0]) }

func (f *facts) values(row int) []int {
	var out []int
	for i, has := range f.has[row] {
		if has {
			out = append(out, i-999)
		}
	}
	return out
}

func (f *facts) sure() []int {
	var out []int
	for row := range f.rows() {
		if len(f.values(row)) == 1 {
			out = append(out, row)
		}
	}
	return out
}

func (f *facts) next() (int, api.Errno) {
	next, most := 0, 1
	for row := range f.rows() {
		if many := len(f.values(row)); many > most {
			next, most = row, many
		}
	}
	if most == 1 {
		return 0, api.ErrNone
	}
	return next, api.OK
}

func (f *facts) word(wrong int) api.HandsWord {
	switch wrong {
	case 0:
		return never
	case f.many:
		return surely
	}
	return may
}

func (f *facts) both(one, other int) []int {
	var out []int
	for row, n := range f.sheet.Columns[one] {
		if n == f.sheet.Columns[other][row] && f.wrong[one][row] > 0 {
			out = append(out, row)
		}
	}
	return out
}

type dice struct{ trial.Dice }

func (d *dice) column(rows int) []int {
	odd := list(0, 7, -7, 10, 17, 70, 100, 101, 110, -110, 123, 132, 213, 990, 999, -999, 45, 54)
	var column []int
	for row := range rows {
		switch {
		case row > 0 && d.From(0, 2) == 0:
			column = append(column, column[row-1])
		case d.From(0, 1) == 0:
			column = append(column, trial.Of(&d.Dice, odd))
		default:
			column = append(column, d.From(-999, 999))
		}
	}
	return column
}

// written returns one of the numbers that can be written for a right one, which can be the right one again.
func (d *dice) written(right []int, row int) int {
	can := list(right[min(row+1, len(right)-1)])
	if row+1 == len(right) {
		can[0] = right[row]
	}
	for n := range slips(right[row]) {
		can = append(can, n)
	}
	slices.Sort(can)
	return trial.Of(&d.Dice, can)
}

// copied returns a copy with at most some errors.
func (d *dice) copied(right []int, most int) []int {
	column := slices.Clone(right)
	for range d.From(0, most) {
		row := d.From(0, len(right)-1)
		column[row] = d.written(right, row)
	}
	return column
}

// sheet returns a sheet with one of its right columns, or now and then with one that is none.
func (d *dice) sheet() (api.HandsSheet, []int) {
	right := d.column(d.From(1, api.HandsRows))
	var s api.HandsSheet
	for range d.From(1, api.HandsHands) {
		most := d.From(0, api.HandsErrors)
		s.Columns = append(s.Columns, d.copied(right, most))
		s.Errors = append(s.Errors, most)
	}
	if d.From(0, 7) == 0 {
		trial.Of(&d.Dice, s.Columns)[d.From(0, len(right)-1)] = d.From(-999, 999)
	}
	return s, right
}

// sheets calls f with the chapter's sheets and with many others, each with a column that mostly is a right one.
func sheets(t *testing.T, many int, f func(t *testing.T, d *dice, s api.HandsSheet, right []int)) {
	t.Helper()
	d := &dice{}
	for _, s := range trial.List(sheetA(), sheetB(), sheetC(), sheetD()) {
		f(t, d, s, s.Columns[0])
	}
	for range many {
		if s, right := d.sheet(); !t.Failed() {
			f(t, d, s, right)
		}
	}
}

// badSheets are sheets that are not as defined, each in one way.
func badSheets() []api.HandsSheet {
	const most, least = int(^uint(0) >> 1), -int(^uint(0)>>1) - 1
	zero := list(0)
	return []api.HandsSheet{
		{}, sheet(nil, zero), sheet(list(0)), sheet(list(0, 0), zero), sheet(list(0), zero, zero), sheet(list(0, 0, 0, 0), zero, zero, zero, zero),
		sheet(list(0), nil), sheet(list(0, 0), nil, nil), sheet(list(0), make([]int, 7)), sheet(list(0), make([]int, 1000)),
		sheet(list(0, 0), zero, nil), sheet(list(0, 0), nil, zero), sheet(list(0, 0), list(0, 0), zero), sheet(list(0, 0), zero, list(0, 0)), sheet(list(0, 0, 0), zero, zero, list(0, 0)),
		sheet(list(0), list(1000)), sheet(list(0), list(-1000)), sheet(list(0, 0), zero, list(1000)), sheet(list(0), list(0, 0, 0, 0, 0, -1000)), sheet(list(0), list(most)), sheet(list(0), list(least)),
		sheet(list(3), zero), sheet(list(-1), zero), sheet(list(0, 3), zero, zero), sheet(list(0, 0, -1), zero, zero, zero), sheet(list(most), zero), sheet(list(least), zero),
	}
}

// TestBadSheets checks that each function refuses each sheet that is not as defined, with zero values beside the error (P2.2 to P2.7, P0.12).
func TestBadSheets(t *testing.T) {
	for i, s := range badSheets() {
		if e := hands.Check(s); e != api.ErrArg {
			t.Error(i, e)
		}
		for name, call := range callsOf(s, list(0), 0, 0, 1) {
			if zero, e := call(); !zero || e != api.ErrArg {
				t.Error(name, i, zero, e)
			}
		}
	}
}

// callsOf returns calls of all functions that have a sheet, each of which tells whether its result is zero.
func callsOf(s api.HandsSheet, right []int, row, one, other int) map[string]func() (bool, api.Errno) {
	return map[string]func() (bool, api.Errno){
		"Apart":  func() (bool, api.Errno) { x, e := hands.Apart(s); return len(x) == 0, e },
		"Agrees": func() (bool, api.Errno) { x, e := hands.Agrees(s, right); return !x, e },
		"First":  func() (bool, api.Errno) { x, e := hands.First(s); return len(x) == 0, e },
		"Values": func() (bool, api.Errno) { x, e := hands.Values(s, row); return len(x) == 0, e },
		"Sure":   func() (bool, api.Errno) { x, e := hands.Sure(s); return len(x) == 0, e },
		"Next":   func() (bool, api.Errno) { x, e := hands.Next(s); return x == 0, e },
		"Least":  func() (bool, api.Errno) { x, e := hands.Least(s); return x == 0, e },
		"Wrong":  func() (bool, api.Errno) { x, e := hands.Wrong(s, one); return len(x) == 0, e },
		"Hands":  func() (bool, api.Errno) { x, e := hands.Hands(s); return len(x) == 0, e },
		"Both":   func() (bool, api.Errno) { x, e := hands.Both(s, one, other); return len(x) == 0, e },
		"Print":  func() (bool, api.Errno) { x, e := hands.Print(s); return x == "", e },
	}
}
