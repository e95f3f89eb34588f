package column_test

import (
	"slices"
	"strings"
	"testing"

	"ephemerist/api"
	"ephemerist/column"
	"ephemerist/trial"
)

func texts() trial.Texts[api.ColumnSheet] {
	return trial.Texts[api.ColumnSheet]{Most: api.ColumnText, Modulus: 233, Print: column.Print, Read: column.Read, Same: sameSheet}
}

func checked(lines ...string) string { return texts().Checked(lines...) }

// mostRows returns the lines of a text with as many rows as a sheet can have.
func mostRows(first, row string) []string {
	return append(trial.List(first), slices.Repeat(trial.List(row), api.ColumnRows)...)
}

// farthest returns the sheet with the longest text.
func farthest() api.ColumnSheet {
	return sheet(3, -99999, -99999, slices.Repeat(list(-9999), api.ColumnRows)...)
}

// P3.8
func TestPrint(t *testing.T) {
	for i, x := range []struct {
		s    api.ColumnSheet
		want string
	}{
		{sheet(1, 0, 2, 7), "column 1 0 2\nrow 7\nend 089\n"},
		{sheetC(), checked("column 2 2 2", "row 0", "row 1", "row 9", "row 4", "row 16", "row 25")},
		{sheet(3, -20, -3, -1, 0, 1), checked("column 3 -20 -3", "row -1", "row 0", "row 1")},
		{farthest(), checked(mostRows("column 3 -99999 -99999", "row -9999")...)},
	} {
		if got, e := column.Print(x.s); e != api.OK || got != x.want {
			t.Errorf("%d: %q %v", i, got, e)
		}
	}
}

// P3.8
func TestReadForm(t *testing.T) {
	lines := trial.List("column 1 0 2", "row 7")
	wrong := slices.Concat(texts().Spoilt(lines...), trial.List(
		checked("row 7"), checked("row 7", "column 1 0 2"), checked("row 7", "row 7"), checked("column 1 0 2", "column 1 0 2"), checked("column 1 0 2", "row 7", "column 1 0 2"), checked("column 1 0 2", "column 1 0 2", "row 7"),
	))
	wrong = append(wrong, texts().WithLine(lines, 0,
		"column", "column ", "column 1", "column 1 0", "column 1 0 2 3", "column 1 0 2 ", " column 1 0 2", "column  1 0 2", "column 1  0 2", "column 1 0  2", "column 1 0 ", "column  0 2",
		"column -1 0 2", "column -0 0 2", "column +1 0 2", "column 01 0 2", "column 00 0 2", "column 1 00 2", "column 1 -0 2", "column 1 +0 2", "column 1 0 -0", "column 1 0 02", "column 1 0 -02", "column 1 0 +2", "column 1 - 2", "column 1 --1 2", "column 1 0 2-",
		"column 100000 0 2", "column 1 -100000 2", "column 1 0 100000", "column 18446744073709551617 0 2", "column 1 0x0 2", "column 1 0.0 2", "column 1 0 x", "column 1 0 2\r", "column 1 0 2\x00", "column 1 0 \u0662", "column 1 0 \xff", "Column 1 0 2", "columns 1 0 2", "1 0 2", "",
	)...)
	wrong = append(wrong, texts().WithLine(lines, 1,
		"row", "row ", "row 7 7", "row 7 ", " row 7", "row  7", "row 07", "row +7", "row -07", "row -0", "row 00", "row -", "row - 7", "row --7", "row 7-", "row 100000", "row -100000", "row 000007", "row 18446744073709551623",
		"row 7.0", "row 0x7", "row x", "row 7\r", "row 7\x00", "row \u0667", "row \xff", "Row 7", "rows 7", "line 7", "7", "",
	)...)
	for _, text := range texts().Taken(wrong...) {
		t.Errorf("%q", text)
	}
}

// P3.8: ErrLong comes before ErrText, and ErrText before ErrArg.
func TestReadErrors(t *testing.T) {
	rows := mostRows("column 3 0 0", "row -9999")
	most, long := checked(append(rows, "row -9999", "row -9999", "row 1000")...), checked(append(rows, "row -9999", "row -9999", "row 10000")...)
	if len(most) != api.ColumnText || len(long) != api.ColumnText+1 {
		t.Fatal(len(most), len(long))
	}
	for text, want := range map[string]api.Errno{
		long: api.ErrLong, strings.Repeat("x", 191): api.ErrLong, checked("column 1 0 2", "row 7") + strings.Repeat("\n", 164): api.ErrLong, strings.Repeat("x", 190): api.ErrText,
		checked("column 0 0 2", "row 7 7"): api.ErrText, strings.Replace(checked("column 0 0 2"), "end ", "end 9", 1): api.ErrText,
		// the form with any numbers, and any number of rows
		most: api.ErrArg, checked("column 1 0 2"): api.ErrArg, checked("column 0 0 2", "row 7"): api.ErrArg, checked("column 4 0 2", "row 7"): api.ErrArg, checked("column 99999 0 2", "row 7"): api.ErrArg, checked("column 1 3 2", "row 7"): api.ErrArg,
		checked("column 1 0 2", "row 10000"): api.ErrArg, checked("column 1 0 2", "row 7", "row -99999"): api.ErrArg, checked(append(mostRows("column 1 0 0", "row 0"), "row 0")...): api.ErrArg,
	} {
		if !texts().Reads(text, want) {
			t.Errorf("%q %v", text, want)
		}
	}
}

// P3.8, P0.11: what was written is read as what was written.
func TestReadWhatWasWritten(t *testing.T) {
	all := trial.List(farthest(), sheet(1, 0, 2, 7), sheet(1, -99999, 99999, 9999), sheet(1, 0, 0, make([]int, api.ColumnRows)...))
	sheets(t, 3000, func(t *testing.T, _ *dice, s api.ColumnSheet) { all = append(all, s) })
	for _, s := range all {
		if !texts().ReadsBack(s) {
			t.Error(s)
		}
	}
}

// P3.8: one digit that was changed is noticed.
func TestChangedDigit(t *testing.T) {
	sheets(t, 300, func(t *testing.T, _ *dice, s api.ColumnSheet) {
		if !texts().Notices(s) {
			t.Error(s)
		}
	})
}

// P0.12: with any other byte, or without one, a text is read or refused, and what is read is what is written again.
func TestReadAnyBytes(t *testing.T) {
	for _, text := range texts().Strange(sheetC()) {
		t.Errorf("%q", text)
	}
}
