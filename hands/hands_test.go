package hands_test

import (
	"slices"
	"testing"

	"ephemerist/api"
	"ephemerist/hands"
)

func made(rowsAndKinds ...int) []api.HandsError {
	var out []api.HandsError
	for i := 0; i < len(rowsAndKinds); i += 2 {
		out = append(out, api.HandsError{Row: rowsAndKinds[i], Kind: api.HandsKind(rowsAndKinds[i+1])})
	}
	return out
}

// P2.1
func TestErrors(t *testing.T) {
	const turned, carry, sign, line = int(turned), int(carry), int(sign), int(line)
	for i, x := range []struct {
		right, copied []int
		want          []api.HandsError
		e             api.Errno
	}{
		{list(132, 45, -60, 7), list(123, 45, 60, 7), made(0, turned, 2, sign), api.OK},
		{list(5, 9), list(9, 9), made(0, line), api.OK}, {list(5, 9), list(6, 9), nil, api.ErrNone}, {list(110), list(10), made(0, carry), api.OK},
		{list(7), list(7), nil, api.OK}, {list(-999, 999, 0, 1, 2, 3), list(-999, 999, 0, 1, 2, 3), nil, api.OK},
		// figures that are next to each other, with zeros before a number
		{list(123), list(213), made(0, turned), api.OK}, {list(123), list(321), nil, api.ErrNone}, {list(123), list(231), nil, api.ErrNone}, {list(5), list(50), made(0, turned), api.OK}, {list(5), list(500), nil, api.ErrNone}, {list(-50), list(-500), made(0, turned), api.OK}, {list(-123), list(-132), made(0, turned), api.OK}, {list(123), list(-132), nil, api.ErrNone}, {list(12), list(102), made(0, turned), api.OK},
		// figures that are one less; nothing is borrowed, and units are not carried to
		{list(123), list(113), made(0, carry), api.OK}, {list(123), list(23), made(0, carry), api.OK}, {list(123), list(122), nil, api.ErrNone}, {list(103), list(93), nil, api.ErrNone}, {list(-123), list(-23), made(0, carry), api.OK}, {list(-123), list(-133), nil, api.ErrNone}, {list(-10), list(0), made(0, carry), api.OK}, {list(100), list(0), made(0, carry), api.OK}, {list(0), list(10), nil, api.ErrNone}, {list(123), list(13), nil, api.ErrNone}, {list(5), list(-5), made(0, sign), api.OK},
		// the next row's number; there is none after the last one, and it is the right one that counts
		{list(5, 9, 5), list(9, 5, 5), made(0, line, 1, line), api.OK}, {list(9, 5), list(9, 9), nil, api.ErrNone}, {list(5, 90), list(9, 9), nil, api.ErrNone}, {list(1, 2, 3), list(3, 2, 3), nil, api.ErrNone}, {list(1, 2, 2), list(2, 1, 2), nil, api.ErrNone},
		// the first of several kinds
		{list(12, 21), list(21, 21), made(0, turned), api.OK}, {list(20, 10), list(10, 10), made(0, carry), api.OK}, {list(1, -1), list(-1, -1), made(0, sign), api.OK}, {list(10, 1), list(1, 1), made(0, turned), api.OK}, {list(21), list(12), made(0, turned), api.OK},
		{list(11, 22, 33, 44, 55, 66), list(1, -22, 34, 55, 66, 66), nil, api.ErrNone}, {list(11, 22, 33, 44, 55, 66), list(1, -22, 23, 55, 66, -66), made(0, carry, 1, sign, 2, carry, 3, line, 4, line, 5, sign), api.OK},
		{nil, nil, nil, api.ErrArg}, {list(1), nil, nil, api.ErrArg}, {nil, list(1), nil, api.ErrArg}, {list(1), list(1, 2), nil, api.ErrArg}, {list(1, 2), list(1), nil, api.ErrArg}, {list(1000), list(100), nil, api.ErrArg}, {list(100), list(-1000), nil, api.ErrArg}, {list(1000), list(1000), nil, api.ErrArg}, {make([]int, 7), make([]int, 7), nil, api.ErrArg}, {list(-1 << 63), list(1<<63 - 1), nil, api.ErrArg},
	} {
		if got, e := hands.Errors(x.right, x.copied); e != x.e || !slices.Equal(got, x.want) {
			t.Error(i, got, e)
		}
	}
}

// P2.1: for each number, all that can be written for it and others.
func TestErrorsOfAllNumbers(t *testing.T) {
	d := &dice{}
	for n := -999; n <= 999; n++ {
		written := list(n, -n, d.From(-999, 999), d.From(-999, 999), max(n-1, -999), max(n-10, -999), max(n-100, -999), min(n+10, 999), min(n+100, 999))
		for m := range slips(n) {
			written = append(written, m)
		}
		for _, m := range written {
			sameErrors(t, list(n), list(m))
			sameErrors(t, list(n, m), list(m, m))
			sameErrors(t, list(m, n), list(n, m))
		}
	}
}

func sameErrors(t *testing.T, right, copied []int) {
	t.Helper()
	want, is := errorsOf(right, copied)
	got, e := hands.Errors(right, copied)
	if !slices.Equal(got, want) || is != (e == api.OK) || !is && e != api.ErrNone {
		t.Error(right, copied, got, e, want)
	}
}

// P2.1: a column that was copied with errors that somebody proposes was copied with as many, in the same rows.
func TestProposedErrors(t *testing.T) {
	d := &dice{}
	for range 20000 {
		right := d.column(d.From(1, api.HandsRows))
		copied := slices.Clone(right)
		var rows []int
		for row := range right {
			if d.From(0, 1) == 0 {
				copied[row] = d.written(right, row)
			}
			if copied[row] != right[row] {
				rows = append(rows, row)
			}
		}
		got, e := hands.Errors(right, copied)
		if e != api.OK || !slices.EqualFunc(got, rows, func(x api.HandsError, row int) bool { return x.Row == row }) {
			t.Fatal(right, copied, got, e)
		}
		sameErrors(t, right, copied)
	}
}

// P2.2
func TestCheck(t *testing.T) {
	most := list(-999, 999, 0, 0, 0, 0)
	for i, s := range []api.HandsSheet{
		sheetA(), sheetB(), sheetC(), sheetD(), sheet(list(0), list(0)), sheet(list(2, 2, 2), most, most, most), sheet(list(0, 1, 2), list(1), list(2), list(3)),
	} {
		if e := hands.Check(s); e != api.OK {
			t.Error(i, e)
		}
	}
}

// P2.2
func TestApart(t *testing.T) {
	for i, x := range []struct {
		s    api.HandsSheet
		want []int
	}{
		{sheetA(), list(0, 2)}, {sheetB(), list(0, 2)}, {sheetC(), list(0, 2)}, {sheetD(), nil},
		{sheet(list(0, 0), list(1, 2), list(1, 2)), nil}, {sheet(list(0, 0), list(1, 2, 3), list(3, 2, 1)), list(0, 2)}, {sheet(list(0, 0), list(5), list(-5)), list(0)},
		{sheet(list(0, 0, 0), list(1, 2, 3, 4), list(1, 0, 3, 0), list(1, 2, 0, 0)), list(1, 2, 3)},
	} {
		if got, e := hands.Apart(x.s); e != api.OK || !slices.Equal(got, x.want) {
			t.Error(i, got, e)
		}
	}
}

// P2.2
func TestAgrees(t *testing.T) {
	for i, x := range []struct {
		s     api.HandsSheet
		right []int
		want  bool
		e     api.Errno
	}{
		{sheetA(), list(123, 45, 60, 7), true, api.OK}, {sheetA(), list(132, 45, -60, 7), true, api.OK}, {sheetA(), list(123, 45, -60, 7), false, api.OK}, {sheetA(), list(132, 45, 60, 7), false, api.OK},
		{sheetB(), list(123, 45, 60, 7), true, api.OK}, {sheetB(), list(132, 45, -60, 7), false, api.OK}, {sheetC(), list(123, 45, -60, 7), false, api.OK},
		{sheetD(), list(7, 7), true, api.OK}, {sheetD(), list(700, 7), true, api.OK}, {sheetD(), list(-999, 7), true, api.OK}, {sheetD(), list(7, 700), false, api.OK}, {sheetD(), list(7, 70), true, api.OK}, {sheetD(), list(70, 70), false, api.OK},
		{sheet(list(2), list(1, 2, 3)), list(10, 20, 3), true, api.OK}, {sheet(list(2), list(1, 2, 3)), list(10, 20, 30), false, api.OK}, {sheet(list(0), list(1)), list(1), true, api.OK}, {sheet(list(0), list(1)), list(-1), false, api.OK},
		{sheetA(), list(1, 2, 3), false, api.ErrArg}, {sheetA(), list(123, 45, 60, 7, 0), false, api.ErrArg}, {sheetA(), list(1, 2, 3, 1000), false, api.ErrArg}, {sheetA(), list(-1000, 2, 3, 4), false, api.ErrArg}, {sheetA(), nil, false, api.ErrArg}, {sheetA(), make([]int, 7), false, api.ErrArg},
	} {
		if is, e := hands.Agrees(x.s, x.right); e != x.e || is != x.want {
			t.Error(i, is, e)
		}
	}
}

// P2.5
func TestWrong(t *testing.T) {
	for i, x := range []struct {
		s     api.HandsSheet
		hand  int
		wrong []api.HandsWord
		e     api.Errno
		hands []api.HandsWord
		f     api.Errno
	}{
		{sheetA(), 0, words(may, never, may, never), api.OK, words(surely, surely), api.OK},
		{sheetA(), 1, words(may, never, may, never), api.OK, words(surely, surely), api.OK},
		{sheetB(), 0, words(never, never, surely, never), api.OK, words(surely, surely, never), api.OK},
		{sheetB(), 1, words(surely, never, never, never), api.OK, words(surely, surely, never), api.OK},
		{sheetB(), 2, words(never, never, never, never), api.OK, words(surely, surely, never), api.OK},
		{sheetD(), 0, words(may, may), api.OK, words(may), api.OK},
		{sheet(list(1, 1), list(5), list(50)), 0, words(may), api.OK, words(may, may), api.OK},
		{sheetC(), 0, nil, api.ErrNone, nil, api.ErrNone}, {sheetC(), 2, nil, api.ErrArg, nil, api.ErrNone},
		{sheetA(), 2, nil, api.ErrArg, words(surely, surely), api.OK}, {sheetA(), -1, nil, api.ErrArg, words(surely, surely), api.OK}, {sheetD(), 1<<63 - 1, nil, api.ErrArg, words(may), api.OK}, {sheetD(), -1 << 63, nil, api.ErrArg, words(may), api.OK},
	} {
		if got, e := hands.Wrong(x.s, x.hand); e != x.e || !slices.Equal(got, x.wrong) {
			t.Error("Wrong", i, got, e)
		}
		if got, e := hands.Hands(x.s); e != x.f || !slices.Equal(got, x.hands) {
			t.Error("Hands", i, got, e)
		}
	}
}

// P2.6
func TestBoth(t *testing.T) {
	same := sheet(list(1, 1), list(123), list(123))
	for i, x := range []struct {
		s          api.HandsSheet
		one, other int
		want       []int
		e          api.Errno
	}{
		{sheetA(), 0, 1, nil, api.OK}, {sheetA(), 1, 0, nil, api.OK}, {sheetB(), 1, 2, nil, api.OK}, {sheetB(), 0, 2, nil, api.OK},
		{same, 0, 1, list(0), api.OK}, {same, 1, 0, list(0), api.OK}, {sheet(list(1, 0), list(5), list(5)), 0, 1, nil, api.OK},
		// surely wrong alike, since the third hand made no error
		{sheet(list(1, 1, 0), list(5, 6), list(5, 6), list(5, 60)), 0, 1, list(1), api.OK},
		{sheet(list(1, 1, 0), list(5, 6), list(5, 6), list(5, 60)), 0, 2, nil, api.OK},
		{sheet(list(1, 1), list(8, 8), list(8, 8)), 0, 1, list(0, 1), api.OK},
		{sheetC(), 0, 1, nil, api.ErrNone}, {sheetC(), 0, 0, nil, api.ErrArg}, {sheetC(), 0, 2, nil, api.ErrArg}, {sheetA(), 0, 0, nil, api.ErrArg}, {sheetA(), 2, 0, nil, api.ErrArg}, {sheetA(), 0, -1, nil, api.ErrArg}, {sheetD(), 0, 0, nil, api.ErrArg}, {sheetD(), 0, 1, nil, api.ErrArg}, {sheetA(), -1 << 63, 1<<63 - 1, nil, api.ErrArg},
	} {
		if got, e := hands.Both(x.s, x.one, x.other); e != x.e || !slices.Equal(got, x.want) {
			t.Error(i, got, e)
		}
	}
}
