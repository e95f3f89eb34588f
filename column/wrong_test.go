package column_test

import (
	"slices"
	"testing"

	"ephemerist/api"
	"ephemerist/column"
)

// P3.3, P3.4
func TestWrong(t *testing.T) {
	for i, x := range []struct {
		s       api.ColumnSheet
		wrong   []int
		count   int
		suspect []api.ColumnWord
		proof   []int
	}{
		{sheetA(), list(5), 1, words(never, never, never, never, never, surely, never, never), list(3)},
		{sheetB(), list(2), 2, words(never, never, may, may, never, never), list(1)},
		{sheetC(), list(0, 3), 6, words(may, may, may, may, may, may), list(0, 3)},
		{sheetD(), nil, 1, words(never, never, never, never, never), nil},
		// no window, and one
		{sheet(1, 5, 5, 7), nil, 1, words(never), nil}, {sheet(3, 9, 9, 1, 2, 3), nil, 1, words(never, never, never), nil}, {sheet(3, 9, 9, 1, 2, 3, 4), list(0), 4, words(may, may, may, may), list(0)}, {sheet(1, 5, 5, 0, 0), list(0), 2, words(may, may), list(0)},
		// windows next to each other are not apart, as they have a row in common
		{sheet(1, 0, 3, 0, 9, 18), list(1), 1, words(never, surely, never), list(0)}, {sheet(1, 0, 3, 0, 9, 18, 27), list(0, 2), 3, words(may, may, may, may), list(0, 2)}, {sheet(1, 0, 3, 0, 9, 18, 18, 27), list(1, 3), 2, words(never, surely, never, may, may), list(0, 3)},
		{sheet(1, 0, 3, 0, 9, 10, 11, 20), list(0, 3), 4, words(may, may, never, may, may), list(0, 3)},
		// all windows jump
		{sheet(1, 0, 0, wave(14)...), list(0, 2, 4, 6, 8, 10, 12), 8, slices.Repeat(words(may), 14), list(0, 2, 4, 6, 8, 10, 12)},
		{sheet(1, 0, 0, wave(13)...), list(1, 3, 5, 7, 9, 11), 1, words(never, surely, never, surely, never, surely, never, surely, never, surely, never, surely, never), list(0, 2, 4, 6, 8, 10)},
		{sheet(3, 0, 0, wave(14)...), list(2, 6, 10), 4, words(never, never, may, may, never, never, may, may, never, never, may, may, never, never), list(0, 4, 8)},
	} {
		if got, e := column.Wrong(x.s); e != api.OK || !slices.Equal(got, x.wrong) {
			t.Error("Wrong", i, got, e)
		}
		if got, e := column.Count(x.s); e != api.OK || got != x.count {
			t.Error("Count", i, got, e)
		}
		if got, e := column.Suspect(x.s); e != api.OK || !slices.Equal(got, x.suspect) {
			t.Error("Suspect", i, got, e)
		}
		if got, e := column.Proof(x.s); e != api.OK || !slices.Equal(got, x.proof) {
			t.Error("Proof", i, got, e)
		}
	}
}

// P3.3, P3.4, P0.3: all results are those of all lists of rows, and there are as many windows that are apart as wrong rows.
func TestAllLists(t *testing.T) {
	sheets(t, 1000, func(t *testing.T, _ *dice, s api.ColumnSheet) {
		all := wrongOf(s)
		wrong, e := column.Wrong(s)
		if e != api.OK || !slices.Equal(wrong, all[0]) {
			t.Error("Wrong", s, wrong, e, all)
		}
		if got, e := column.Count(s); e != api.OK || got != len(all) {
			t.Error("Count", s, got, e, all)
		}
		if got, e := column.Suspect(s); e != api.OK || !slices.Equal(got, suspectOf(s)) {
			t.Error("Suspect", s, got, e, suspectOf(s))
		}
		proof, e := column.Proof(s)
		if e != api.OK || !slices.Equal(proof, proofOf(s)) {
			t.Error("Proof", s, proof, e, proofOf(s))
		}
		if len(proof) != len(wrong) {
			t.Error(s, proof, wrong)
		}
	})
}

// P3.3: rows that somebody proposes, so that each window that jumps has one, are as many, or more.
func TestProposedRows(t *testing.T) {
	sheets(t, 1000, func(t *testing.T, d *dice, s api.ColumnSheet) {
		wrong, _ := column.Wrong(s)
		jumps, _ := column.Jumps(s)
		for range 30 {
			var proposed []int
			for row := range s.Values {
				if d.From(0, 2) == 0 {
					proposed = append(proposed, row)
				}
			}
			if len(proposed) < len(wrong) && haveOne(s, jumps, proposed) {
				t.Fatal(s, wrong, proposed)
			}
		}
		if !haveOne(s, jumps, wrong) {
			t.Fatal(s, wrong)
		}
	})
}

// haveOne tells whether each of some windows has one of some rows.
func haveOne(s api.ColumnSheet, windows, rows []int) bool {
	for _, at := range windows {
		if !slices.ContainsFunc(rows, func(row int) bool { return at <= row && row <= at+s.Order }) {
			return false
		}
	}
	return true
}
