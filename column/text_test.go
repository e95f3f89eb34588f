package column_test

import (
	"slices"
	"strings"
	"testing"

	"ephemerist/api"
	"ephemerist/column"
	"ephemerist/trial"
)

const oneText = "column 1 0 2\nrow 7\nend 089\n"

func checked(lines ...string) string { return trial.Checked(233, lines...) }

// farthest returns the sheet with the longest text.
func farthest() api.ColumnSheet {
	return sheet(3, -99999, -99999, slices.Repeat(list(-9999), api.ColumnRows)...)
}

// P3.8
func TestPrint(t *testing.T) {
	for i, x := range []struct {
		s    api.ColumnSheet
		want string
	}{
		{sheet(1, 0, 2, 7), oneText},
		{sheetC(), checked("column 2 2 2", "row 0", "row 1", "row 9", "row 4", "row 16", "row 25")},
		{sheet(3, -20, -3, -1, 0, 1), checked("column 3 -20 -3", "row -1", "row 0", "row 1")},
		{farthest(), checked(strings.Split("column 3 -99999 -99999"+strings.Repeat(",row -9999", 14), ",")...)},
	} {
		if got, e := column.Print(x.s); e != api.OK || got != x.want {
			t.Errorf("%d: %q %v", i, got, e)
		}
	}
}

func refused(t *testing.T, text string) {
	t.Helper()
	if s, e := column.Read(text); e != api.ErrText || !sameSheet(s, api.ColumnSheet{}) {
		t.Errorf("%q %v %v", text, s, e)
	}
}

// P3.8
func TestReadForm(t *testing.T) {
	swap := func(old, new string) string { return strings.Replace(oneText, old, new, 1) }
	for _, text := range []string{
		"", "\n", "column", "column 1 0 2", "column 1 0 2\n", "row 7\n", "end 000\n", "end 089", "column 1 0 2\nrow 7\n", "row 7\nend 089\n",
		"\n" + oneText, oneText + "\n", " " + oneText, oneText + " ", strings.TrimSuffix(oneText, "\n"), oneText[1:], oneText + oneText, strings.ToUpper(oneText),
		swap("\n", "\r\n"), swap("\n", "\n\n"), swap("\n", " \n"), swap(" ", "\t"), swap(" ", ""), swap(" ", "  "), swap("column", "columns"), swap("row", "rows"), swap("end", "ende"),
		swap("089", "090"), swap("089", "89"), swap("089", "0089"), swap("089", "322"), swap("089", "+89"), swap("089", "08x"), swap("089", ""), swap("end 089", "end 089 0"), swap("end 089", "end"), swap("end 089", "end -89"),
		checked("row 7"), checked("row 7", "column 1 0 2"), checked("column 1 0 2", "column 1 0 2"), checked("column 1 0 2", "row 7", "column 1 0 2"), checked("column 1 0 2", "end 227"), checked("column 1 0 2", "end 227", "row 7"), checked(), checked(""), checked("column 1 0 2", ""), checked("", "column 1 0 2", "row 7"), oneText + "end 000\n", oneText + "row 0\n",
		strings.Repeat("x", 190), strings.Repeat("\n", 190), strings.Repeat(" ", 190),
	} {
		refused(t, text)
	}
}

// P3.8: a line that is not of the form is refused with its own CHECK, and with that of the line that it could be taken for.
func TestReadLines(t *testing.T) {
	for _, first := range []string{
		"column", "column ", "column 1", "column 1 0", "column 1 0 2 3", "column 1 0 2 ", " column 1 0 2", "column  1 0 2", "column 1  0 2", "column 1 0  2", "column 1 0 ", "column  0 2",
		"column -1 0 2", "column -0 0 2", "column +1 0 2", "column 01 0 2", "column 00 0 2", "column 1 00 2", "column 1 -0 2", "column 1 +0 2", "column 1 0 -0", "column 1 0 02", "column 1 0 -02", "column 1 0 +2", "column 1 - 2", "column 1 --1 2", "column 1 0 2-",
		"column 100000 0 2", "column 1 -100000 2", "column 1 0 100000", "column 18446744073709551617 0 2", "column 1 0x0 2", "column 1 0.0 2", "column 1 0 x", "column 1 0 2\r", "column 1 0 2\x00", "column 1 0 \u0662", "column 1 0 \xff", "Column 1 0 2", "columns 1 0 2", "1 0 2", "",
	} {
		refused(t, checked(first, "row 7"))
		refused(t, first+"\nrow 7\nend 089\n")
	}
	for _, second := range []string{
		"row", "row ", "row 7 7", "row 7 ", " row 7", "row  7", "row 07", "row +7", "row -07", "row -0", "row 00", "row -", "row - 7", "row --7", "row 7-", "row 100000", "row -100000", "row 000007", "row 18446744073709551623", "row 7.0", "row 0x7", "row x", "row 7\r", "row 7\x00", "row \u0667", "row \xff", "Row 7", "line 7", "7", "",
	} {
		refused(t, checked("column 1 0 2", second))
		refused(t, "column 1 0 2\n"+second+"\nend 089\n")
	}
}

// P3.8: ErrLong comes before ErrText, and ErrText before ErrArg.
func TestReadErrors(t *testing.T) {
	rows := strings.Split("column 3 0 0"+strings.Repeat(",row -9999", 16), ",")
	most, long := checked(append(rows, "row 1000")...), checked(append(rows, "row 10000")...)
	if len(most) != api.ColumnText || len(long) != api.ColumnText+1 {
		t.Fatal(len(most), len(long))
	}
	for i, x := range []struct {
		text string
		want api.Errno
	}{
		{strings.Repeat("x", 191), api.ErrLong}, {oneText + strings.Repeat("\n", 191-len(oneText)), api.ErrLong}, {long, api.ErrLong}, {strings.Repeat("x", 190), api.ErrText},
		{strings.Replace(checked("column 0 0 2"), "end ", "end 9", 1), api.ErrText}, {checked("column 0 0 2", "row 7 7"), api.ErrText},
		// a form with any numbers, and any number of rows
		{most, api.ErrArg}, {checked("column 1 0 2"), api.ErrArg}, {checked("column 0 0 2", "row 7"), api.ErrArg}, {checked("column 4 0 2", "row 7"), api.ErrArg}, {checked("column 99999 0 2", "row 7"), api.ErrArg}, {checked("column 1 3 2", "row 7"), api.ErrArg}, {checked("column 1 0 2", "row 10000"), api.ErrArg}, {checked("column 1 0 2", "row 7", "row -99999"), api.ErrArg},
		{checked(append(mostRows(), "row 0")...), api.ErrArg},
	} {
		if s, e := column.Read(x.text); e != x.want || !sameSheet(s, api.ColumnSheet{}) {
			t.Errorf("%d: %d %q %v %v", i, len(x.text), x.text, s, e)
		}
	}
	if s, e := column.Read(checked(mostRows()...)); e != api.OK || !sameSheet(s, sheet(1, 0, 0, make([]int, 14)...)) {
		t.Error(s, e)
	}
}

// mostRows returns the lines of a text with as many rows as a sheet can have.
func mostRows() []string { return strings.Split("column 1 0 0"+strings.Repeat(",row 0", 14), ",") }

// P3.8, P0.11: what was written is read as what was written.
func TestReadWhatWasWritten(t *testing.T) {
	readBack(t, farthest())
	readBack(t, sheet(1, 0, 2, 7))
	sheets(t, 3000, func(t *testing.T, _ *dice, s api.ColumnSheet) { readBack(t, s) })
}

func readBack(t *testing.T, s api.ColumnSheet) {
	t.Helper()
	text, e := column.Print(s)
	if e != api.OK || len(text) > api.ColumnText {
		t.Fatalf("%v %q %v", s, text, e)
	}
	if got, e := column.Read(text); e != api.OK || !sameSheet(got, s) {
		t.Fatalf("%v %q %v %v", s, text, got, e)
	}
}

// P3.8: one digit that was changed is noticed.
func TestChangedDigit(t *testing.T) {
	sheets(t, 300, func(t *testing.T, _ *dice, s api.ColumnSheet) {
		text, _ := column.Print(s)
		for _, changed := range trial.OtherDigits(text) {
			if _, e := column.Read(changed); e != api.ErrText {
				t.Fatalf("%q %q %v", text, changed, e)
			}
		}
	})
}

// P0.12: with any other byte, or without one, a text is read or refused, and what is read is what is written again.
func TestReadAnyBytes(t *testing.T) {
	text, _ := column.Print(sheetC())
	for _, changed := range trial.OtherBytes(text) {
		s, e := column.Read(changed)
		if e != api.OK {
			continue
		}
		if again, f := column.Print(s); f != api.OK || again != changed {
			t.Fatalf("%q %q %v", changed, again, f)
		}
	}
}
