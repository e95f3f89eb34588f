package hands

import (
	"iter"
	"slices"

	"ephemerist/api"
	"ephemerist/reckon"
)

// Agrees reports whether a column can be the right one.
func Agrees(s api.HandsSheet, right []int) (bool, api.Errno) {
	if !isSheet(s) || !isColumn(right) || len(right) != rowsOf(s) {
		return false, api.ErrArg
	}
	return agrees(s, right), api.OK
}

// First returns the first right column.
func First(s api.HandsSheet) ([]int, api.Errno) {
	t, e := solve(s)
	if e != api.OK {
		return nil, e
	}
	before := func(a, b []int) bool { return slices.Compare(a, b) < 0 }
	return reckon.Best(t.rights, before), api.OK
}

// Values returns all numbers that a row can have.
func Values(s api.HandsSheet, row int) ([]int, api.Errno) {
	if !isSheet(s) || !isRow(s, row) {
		return nil, api.ErrArg
	}
	t, e := solve(s)
	if e != api.OK {
		return nil, e
	}
	if t.isOpen(row) {
		return nil, api.ErrOpen
	}
	return t.numbers(row), api.OK
}

// Sure returns all rows whose numbers are sure.
func Sure(s api.HandsSheet) ([]int, api.Errno) {
	t, e := solve(s)
	if e != api.OK {
		return nil, e
	}
	return t.sure(), api.OK
}

// Next returns the row that should be computed once more.
func Next(s api.HandsSheet) (int, api.Errno) {
	t, e := solve(s)
	if e != api.OK {
		return 0, e
	}
	if len(t.sure()) == rowsOf(s) {
		return 0, api.ErrNone
	}
	return slices.Index(t.many, slices.Max(t.many)), api.OK
}

// Least returns the fewest errors that the hands have made together.
func Least(s api.HandsSheet) (int, api.Errno) {
	t, e := solve(s)
	if e != api.OK {
		return 0, e
	}
	fewer := func(a, b []int) bool { return t.together(a) < t.together(b) }
	return t.together(reckon.Best(t.rights, fewer)), api.OK
}

// allNumbers is how many numbers a row can have that is open.
const allNumbers = 2*api.HandsMost + 1

// place is a number in a row.
type place struct{ row, number int }

// sheetWithRights is a sheet with some of its right columns: where a row is
// open, one number stands for all those that are possible for no other reason.
type sheetWithRights struct {
	api.HandsSheet
	rights   [][]int
	possible map[place]bool
	// many is how many numbers each row can have.
	many []int
}

// solve returns a sheet with some of its right columns, of which there is one
// at least.
func solve(s api.HandsSheet) (sheetWithRights, api.Errno) {
	if !isSheet(s) {
		return sheetWithRights{}, api.ErrArg
	}
	t := sheetWithRights{HandsSheet: s, possible: map[place]bool{}, many: make([]int, rowsOf(s))}
	for right := range rights(s) {
		t.add(right)
	}
	if len(t.rights) == 0 {
		return sheetWithRights{}, api.ErrNone
	}
	for row := range rowsOf(s) {
		if t.can(row, another(named(s, row))) {
			t.many[row] = allNumbers
		}
	}
	return t, api.OK
}

func (t *sheetWithRights) add(right []int) {
	t.rights = append(t.rights, right)
	for row, n := range right {
		if !t.can(row, n) {
			t.possible[place{row, n}] = true
			t.many[row]++
		}
	}
}

func (t sheetWithRights) isOpen(row int) bool { return t.many[row] == allNumbers }

func (t sheetWithRights) isSure(row int) bool { return t.many[row] == 1 }

// can tells whether a row can have a number.
func (t sheetWithRights) can(row, number int) bool {
	return t.isOpen(row) || t.possible[place{row, number}]
}

// numbers returns all numbers that a row can have.
func (t sheetWithRights) numbers(row int) []int {
	var numbers []int
	for n := -api.HandsMost; n <= api.HandsMost; n++ {
		if t.can(row, n) {
			numbers = append(numbers, n)
		}
	}
	return numbers
}

// sure returns all rows that are sure.
func (t sheetWithRights) sure() []int {
	var sure []int
	for row := range t.many {
		if t.isSure(row) {
			sure = append(sure, row)
		}
	}
	return sure
}

// together returns how many errors all hands made with a right column.
func (t sheetWithRights) together(right []int) int {
	var many []int
	for _, column := range t.Columns {
		made, _ := errorsOf(right, column)
		many = append(many, len(made))
	}
	return reckon.Sum(many...)
}

func agrees(s api.HandsSheet, right []int) bool {
	for hand, column := range s.Columns {
		made, is := errorsOf(right, column)
		if !is || len(made) > s.Errors[hand] {
			return false
		}
	}
	return true
}

// rights goes through the right columns of a sheet in which each row has a
// number that is named for it, or the first other one.
func rights(s api.HandsSheet) iter.Seq[[]int] {
	numbers := make([][]int, rowsOf(s))
	for row := range rowsOf(s) {
		list := named(s, row)
		numbers[row] = append(list, another(list))
	}
	return func(yield func([]int) bool) {
		right := make([]int, rowsOf(s))
		// From the last row on, since the number of the next row shows
		// whether a line was skipped.
		var fill func(row int, left []int) bool
		fill = func(row int, left []int) bool {
			if row < 0 {
				return yield(slices.Clone(right))
			}
			for _, n := range numbers[row] {
				right[row] = n
				if still, ok := after(s, right, row, left); ok && !fill(row-1, still) {
					return false
				}
			}
			return true
		}
		fill(rowsOf(s)-1, s.Errors)
	}
}

// after returns how many errors are left to each hand after a row, or false if
// a hand cannot have written its number there.
func after(s api.HandsSheet, right []int, row int, left []int) ([]int, bool) {
	still := slices.Clone(left)
	for hand, column := range s.Columns {
		if column[row] == right[row] {
			continue
		}
		still[hand]--
		if still[hand] < 0 || (miswritten{right, row, column[row]}).kind() == 0 {
			return nil, false
		}
	}
	return still, true
}

// named returns the numbers of a row that a right column can have for a reason
// of their own: a hand can have written its number for them, or for the one
// before them when it skipped a line. All others are alike: each hand that
// wrote another number skipped the line.
func named(s api.HandsSheet, row int) []int {
	var list []int
	for _, column := range s.Columns {
		list = append(list, near(column[row])...)
		if row > 0 {
			list = append(list, column[row-1])
		}
	}
	slices.Sort(list)
	return slices.Compact(list)
}

// another returns the first number that is not in a list.
func another(list []int) int {
search:
	for n := -api.HandsMost; ; n++ {
		for _, m := range list {
			if m == n {
				continue search
			}
		}
		return n
	}
}
