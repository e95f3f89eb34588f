package hands_test

import (
	"slices"
	"testing"
	"time"

	"ephemerist/api"
	"ephemerist/hands"
)

// P2.2, P2.3: the chapter's examples, and the edge cases that it names.
func TestRightColumns(t *testing.T) {
	for i, x := range []struct {
		s     api.HandsSheet
		first []int
		sure  []int
		least int
		e     api.Errno
		next  int
		f     api.Errno
	}{
		{sheetA(), list(123, 45, 60, 7), list(1, 3), 2, api.OK, 0, api.OK},
		{sheetB(), list(123, 45, 60, 7), list(0, 1, 2, 3), 2, api.OK, 0, api.ErrNone},
		{sheetC(), nil, nil, 0, api.ErrNone, 0, api.ErrNone},
		{sheetD(), list(-999, 7), nil, 0, api.OK, 0, api.OK},
		{sheet(list(0), list(5, -5)), list(5, -5), list(0, 1), 0, api.OK, 0, api.ErrNone},
		{sheet(list(0, 0), list(5, -5), list(5, -5)), list(5, -5), list(0, 1), 0, api.OK, 0, api.ErrNone},
		{sheet(list(0, 0), list(5, -5), list(5, 5)), nil, nil, 0, api.ErrNone, 0, api.ErrNone},
		{sheet(list(0, 2), list(5, 6), list(6, 60)), list(5, 6), list(0, 1), 2, api.OK, 0, api.ErrNone},
		{sheet(list(1), list(999)), list(-999), nil, 0, api.OK, 0, api.OK},
		// -999 can be written, and stands for no other number: the first other one is not before it
		{sheet(list(1), list(-999, -999)), list(-999, -999), nil, 0, api.OK, 0, api.OK},
		// the second row has more numbers than the first one; or as many
		{sheet(list(1), list(999, 1, 1)), list(-999, 1, 1), nil, 0, api.OK, 1, api.OK},
		{sheet(list(2), list(0, 0, 0)), list(-999, 0, -100), nil, 0, api.OK, 0, api.OK},
	} {
		if got, e := hands.First(x.s); e != x.e || !slices.Equal(got, x.first) {
			t.Error("First", i, got, e)
		}
		if got, e := hands.Sure(x.s); e != x.e || !slices.Equal(got, x.sure) {
			t.Error("Sure", i, got, e)
		}
		if got, e := hands.Least(x.s); e != x.e || got != x.least {
			t.Error("Least", i, got, e)
		}
		if got, e := hands.Next(x.s); e != x.f || got != x.next {
			t.Error("Next", i, got, e)
		}
	}
}

// P2.3
func TestValues(t *testing.T) {
	for i, x := range []struct {
		s    api.HandsSheet
		row  int
		want []int
		e    api.Errno
	}{
		{sheetA(), 0, list(123, 132), api.OK}, {sheetA(), 1, list(45), api.OK}, {sheetA(), 2, list(-60, 60), api.OK}, {sheetA(), 3, list(7), api.OK},
		{sheetD(), 0, nil, api.ErrOpen}, {sheetD(), 1, list(-7, 7, 17, 70, 107), api.OK},
		{sheet(list(1), list(0)), 0, list(-100, -10, 0, 10, 100), api.OK}, {sheet(list(1), list(990)), 0, list(-990, 909, 990), api.OK}, {sheet(list(1), list(-899)), 0, list(-999, -989, -899, 899), api.OK},
		// a line that was skipped, which one hand did not
		{sheet(list(1, 0), list(5, 5), list(999, 5)), 0, list(999), api.OK},
		{sheetA(), 4, nil, api.ErrArg}, {sheetA(), -1, nil, api.ErrArg}, {sheetA(), 1<<63 - 1, nil, api.ErrArg}, {sheetA(), -1 << 63, nil, api.ErrArg},
		{sheetC(), 0, nil, api.ErrNone}, {sheetC(), 4, nil, api.ErrArg},
	} {
		if got, e := hands.Values(x.s, x.row); e != x.e || !slices.Equal(got, x.want) {
			t.Error(i, got, e)
		}
	}
}

// P2.2 to P2.6: all results are those of all right columns.
func TestAllRightColumns(t *testing.T) {
	several := []api.HandsSheet{
		sheet(list(2), list(5, 5, 7, 7)), sheet(list(2), list(-999, -999, 3)), sheet(list(2, 2), list(1, 1), list(1, 1)), sheet(list(1, 1), list(12, 21), list(21, 21)), sheet(list(2, 1), list(8, 8, 8), list(8, 80, 8)),
	}
	for _, s := range several {
		sameAsFacts(t, factsOf(s, 5000000))
	}
	sheets(t, 400, func(t *testing.T, _ *dice, s api.HandsSheet, _ []int) {
		const most = 50000
		// More would take the test too long.
		if f := factsOf(s, most); f.many < most {
			sameAsFacts(t, f)
		}
	})
}

func sameAsFacts(t *testing.T, f *facts) {
	t.Helper()
	if s := f.sheet; f.many == 0 {
		for name, call := range callsOf(s, s.Columns[0], 0, 0, len(s.Columns)-1) {
			zero, e := call()
			want := api.ErrNone
			switch {
			case name == "Apart" || name == "Print" || name == "Agrees":
				want = api.OK
			case name == "Both" && len(s.Columns) == 1:
				want = api.ErrArg
			}
			if e != want || want != api.OK && !zero {
				t.Error(name, s, zero, e)
			}
		}
		return
	}
	sameColumns(t, f)
	sameHands(t, f)
}

func sameColumns(t *testing.T, f *facts) {
	t.Helper()
	if got, e := hands.First(f.sheet); e != api.OK || !slices.Equal(got, f.first) {
		t.Error("First", f.sheet, got, e, f.first)
	}
	if got, e := hands.Sure(f.sheet); e != api.OK || !slices.Equal(got, f.sure()) {
		t.Error("Sure", f.sheet, got, e, f.sure())
	}
	if got, e := hands.Least(f.sheet); e != api.OK || got != f.least {
		t.Error("Least", f.sheet, got, e, f.least)
	}
	next, none := f.next()
	if got, e := hands.Next(f.sheet); e != none || got != next {
		t.Error("Next", f.sheet, got, e, next)
	}
	for row := range f.rows() {
		values, open := f.values(row), api.OK
		if len(values) == 1999 {
			values, open = nil, api.ErrOpen
		}
		if got, e := hands.Values(f.sheet, row); e != open || !slices.Equal(got, values) {
			t.Error("Values", f.sheet, row, got, e, values)
		}
	}
}

func sameHands(t *testing.T, f *facts) {
	t.Helper()
	var all []api.HandsWord
	for one := range f.sheet.Columns {
		all = append(all, f.word(f.hands[one]))
		var rows []api.HandsWord
		for row := range f.rows() {
			rows = append(rows, f.word(f.wrong[one][row]))
		}
		if got, e := hands.Wrong(f.sheet, one); e != api.OK || !slices.Equal(got, rows) {
			t.Error("Wrong", f.sheet, one, got, e, rows)
		}
		for other := range f.sheet.Columns {
			want, same := f.both(one, other), api.OK
			if one == other {
				want, same = nil, api.ErrArg
			}
			if got, e := hands.Both(f.sheet, one, other); e != same || !slices.Equal(got, want) {
				t.Error("Both", f.sheet, one, other, got, e, want)
			}
		}
	}
	if got, e := hands.Hands(f.sheet); e != api.OK || !slices.Equal(got, all) {
		t.Error("Hands", f.sheet, got, e, all)
	}
}

// P2.3 to P2.6: what is returned agrees with each right column that somebody proposes.
func TestProposedColumns(t *testing.T) {
	sheets(t, 2000, func(t *testing.T, _ *dice, s api.HandsSheet, right []int) {
		is, e := hands.Agrees(s, right)
		if e != api.OK || is != agreesOf(s, right) {
			t.Fatal("Agrees", s, right, is, e)
		}
		if is {
			agreesWith(t, s, right)
		}
	})
}

func agreesWith(t *testing.T, s api.HandsSheet, right []int) {
	t.Helper()
	if first, e := hands.First(s); e != api.OK || slices.Compare(first, right) > 0 || !agreesOf(s, first) {
		t.Fatal("First", s, right, first, e)
	}
	sure, _ := hands.Sure(s)
	for row, n := range right {
		values, e := hands.Values(s, row)
		if e == api.ErrOpen && !slices.Contains(sure, row) {
			continue
		}
		if e != api.OK || !slices.Contains(values, n) || slices.Contains(sure, row) != (len(values) == 1) {
			t.Fatal("Values", s, right, row, values, e, sure)
		}
	}
	made := 0
	all, _ := hands.Hands(s)
	for hand, column := range s.Columns {
		errors, _ := errorsOf(right, column)
		made += len(errors)
		fits(t, s, all[hand], !slices.Equal(column, right))
		rows, _ := hands.Wrong(s, hand)
		for row, n := range right {
			fits(t, s, rows[row], column[row] != n)
		}
	}
	if least, e := hands.Least(s); e != api.OK || least > made {
		t.Fatal("Least", s, right, least, e, made)
	}
}

func fits(t *testing.T, s api.HandsSheet, word api.HandsWord, wrong bool) {
	t.Helper()
	if word == surely && !wrong || word == never && wrong || word < never || word > surely {
		t.Fatal(s, word, wrong)
	}
}

// P0.12: the sheets with most right columns take no longer than others.
func TestManyRightColumns(t *testing.T) {
	begun := time.Now()
	same := list(7, 7, 7, 7, 7, 7)
	for _, s := range []api.HandsSheet{
		sheet(list(2), same), sheet(list(2, 2, 2), same, same, same), sheet(list(2), list(0, 0, 0, 0, 0, 0)), sheet(list(2, 2, 2), list(1, 20, 300, 4, 50, 600), list(10, 20, 300, 4, 50, 600), list(10, 20, 300, 4, 5, 600)),
	} {
		for name, call := range callsOf(s, s.Columns[0], 0, 0, 1) {
			if _, e := call(); e == api.ErrNone {
				t.Error(name, s, e)
			}
		}
	}
	if time.Since(begun) > 10*time.Second {
		t.Error(time.Since(begun))
	}
}
