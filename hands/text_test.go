package hands_test

import (
	"strings"
	"testing"

	"ephemerist/api"
	"ephemerist/hands"
	"ephemerist/trial"
)

const oneText = "hands 0\nrow 0\nend 131\n"

func checked(lines ...string) string { return trial.Checked(229, lines...) }

// P2.7
func TestPrint(t *testing.T) {
	far := list(-999, -999, -999, -999, -999, -999)
	for i, x := range []struct {
		s    api.HandsSheet
		want string
	}{
		{sheet(list(0), list(0)), oneText},
		{sheetA(), checked("hands 1 1", "row 123 132", "row 45 45", "row -60 60", "row 7 7")},
		{sheetB(), checked("hands 1 1 0", "row 123 132 123", "row 45 45 45", "row -60 60 60", "row 7 7 7")},
		{sheet(list(2, 2, 2), far, far, far), checked(strings.Split("hands 2 2 2"+strings.Repeat(",row -999 -999 -999", 6), ",")...)},
	} {
		if got, e := hands.Print(x.s); e != api.OK || got != x.want {
			t.Errorf("%d: %q %v", i, got, e)
		}
	}
}

func refused(t *testing.T, text string) {
	t.Helper()
	if s, e := hands.Read(text); e != api.ErrText || !sameSheet(s, api.HandsSheet{}) {
		t.Errorf("%q %v %v", text, s, e)
	}
}

// P2.7
func TestReadForm(t *testing.T) {
	swap := func(old, new string) string { return strings.Replace(oneText, old, new, 1) }
	for _, text := range []string{
		"", "\n", "hands", "hands 0", "hands 0\n", "row 0\n", "end 000\n", "end 131", "hands 0\nrow 0\n", "row 0\nend 131\n",
		"\n" + oneText, oneText + "\n", " " + oneText, oneText + " ", strings.TrimSuffix(oneText, "\n"), oneText[1:], oneText + oneText, strings.ToUpper(oneText),
		swap("\n", "\r\n"), swap("\n", "\n\n"), swap("\n", " \n"), swap(" ", "\t"), swap(" ", ""), swap(" ", "  "), swap("hands", "hand"), swap("row", "rows"), swap("end", "ende"),
		swap("131", "132"), swap("131", "31"), swap("131", "0131"), swap("131", "360"), swap("131", "+31"), swap("131", "13x"), swap("131", ""), swap("end 131", "end 131 0"), swap("end 131", "end"), swap("end 131", "end -131"),
		checked("row 0"), checked("row 0", "hands 0"), checked("hands 0", "hands 0"), checked("hands 0", "row 0", "hands 0"), checked("hands 0", "end 070"), checked("hands 0", "end 070", "row 0"), checked(), checked(""), checked("hands 0", ""), checked("", "hands 0", "row 0"), oneText + "end 000\n", oneText + "row 0\n",
		// each row has as many numbers as there are hands, of which there is one at least
		checked("hands"), checked("hands", "row"), checked("hands 0", "row"), checked("hands 0", "row 0 0"), checked("hands 0 0", "row 0"), checked("hands 0 0", "row 0 0", "row 0"), checked("hands 0 0 0", "row 0 0 0", "row 0 0 0 0", "row 0 0 0"), checked("hands 0", "row 0", "row"),
		strings.Repeat("x", 150), strings.Repeat("\n", 150), strings.Repeat(" ", 150),
	} {
		refused(t, text)
	}
}

// P2.7: a line that is not of the form is refused with its own CHECK, and with that of the line that it could be taken for.
func TestReadLines(t *testing.T) {
	for _, first := range []string{
		"hands 00", "hands 01", "hands +0", "hands -0", "hands -1", "hands  0", "hands 0 ", " hands 0", "hands ", "hands 0x0", "hands 0.0", "hands 1_0", "hands x", "hands 1000", "hands 18446744073709551616", "hands 0\r", "hands 0\x00", "hands \u0660", "hands \xff", "Hands 0", "hand 0", "0", "",
	} {
		refused(t, checked(first, "row 0"))
		refused(t, first+"\nrow 0\nend 131\n")
	}
	for _, second := range []string{
		"row -0", "row 00", "row 01", "row -01", "row +0", "row - 0", "row -", "row --1", "row 1-", "row  0", "row 0 ", " row 0", "row ", "row 1000", "row -1000", "row 0999", "row 18446744073709551616", "row 0\r", "row 0\x00", "row \u0660", "row \xff", "Row 0", "line 0", "0", "",
	} {
		refused(t, checked("hands 0", second))
		refused(t, "hands 0\n"+second+"\nend 131\n")
	}
}

// P2.7: ErrLong comes before ErrText, and ErrText before ErrArg.
func TestReadErrors(t *testing.T) {
	far := strings.Split("hands 200 200 200"+strings.Repeat(",row -999 -999 -999", 6), ",")
	most := checked(append(far, "row 1 0 0")...)
	long := checked(append(far, "row 10 0 0")...)
	if len(most) != api.HandsText || len(long) != api.HandsText+1 {
		t.Fatal(len(most), len(long))
	}
	for i, x := range []struct {
		text string
		want api.Errno
	}{
		{strings.Repeat("x", 151), api.ErrLong}, {oneText + strings.Repeat("\n", 151-len(oneText)), api.ErrLong}, {long, api.ErrLong}, {strings.Repeat("x", 150), api.ErrText},
		{strings.Replace(checked("hands 3"), "end ", "end 9", 1), api.ErrText}, {checked("hands 3", "row 0 0"), api.ErrText},
		{most, api.ErrArg}, {checked("hands 0"), api.ErrArg}, {checked("hands 3"), api.ErrArg}, {checked("hands 3", "row 0"), api.ErrArg}, {checked("hands 999", "row 0"), api.ErrArg}, {checked("hands 0 3", "row 0 0"), api.ErrArg},
		{checked("hands 0 0 0 0", "row 0 0 0 0"), api.ErrArg}, {checked("hands 0", "row 1", "row 2", "row 3", "row 4", "row 5", "row 6", "row 7"), api.ErrArg},
	} {
		if s, e := hands.Read(x.text); e != x.want || !sameSheet(s, api.HandsSheet{}) {
			t.Errorf("%d: %d %q %v %v", i, len(x.text), x.text, s, e)
		}
	}
}

// P2.7, P0.11: what was written is read as what was written.
func TestReadWhatWasWritten(t *testing.T) {
	far := list(-999, -999, -999, -999, -999, -999)
	for _, s := range []api.HandsSheet{sheet(list(0), list(0)), sheet(list(2, 2, 2), far, far, far), sheet(list(2), far)} {
		readBack(t, s)
	}
	sheets(t, 3000, func(t *testing.T, _ *dice, s api.HandsSheet, _ []int) { readBack(t, s) })
}

func readBack(t *testing.T, s api.HandsSheet) {
	t.Helper()
	text, e := hands.Print(s)
	if e != api.OK || len(text) > api.HandsText {
		t.Fatalf("%v %q %v", s, text, e)
	}
	if got, e := hands.Read(text); e != api.OK || !sameSheet(got, s) {
		t.Fatalf("%v %q %v %v", s, text, got, e)
	}
}

// P2.7: one digit that was changed is noticed.
func TestChangedDigit(t *testing.T) {
	sheets(t, 300, func(t *testing.T, _ *dice, s api.HandsSheet, _ []int) {
		text, _ := hands.Print(s)
		for _, changed := range trial.OtherDigits(text) {
			if _, e := hands.Read(changed); e != api.ErrText {
				t.Fatalf("%q %q %v", text, changed, e)
			}
		}
	})
}

// P0.12: with any other byte, or without one, a text is read or refused, and what is read is what is written again.
func TestReadAnyBytes(t *testing.T) {
	text, _ := hands.Print(sheetB())
	for _, changed := range trial.OtherBytes(text) {
		s, e := hands.Read(changed)
		if e != api.OK {
			continue
		}
		if again, f := hands.Print(s); f != api.OK || again != changed {
			t.Fatalf("%q %q %v", changed, again, f)
		}
	}
}
