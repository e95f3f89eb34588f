package hands_test

import (
	"slices"
	"strings"
	"testing"

	"ephemerist/api"
	"ephemerist/hands"
	"ephemerist/trial"
)

func texts() trial.Texts[api.HandsSheet] {
	return trial.Texts[api.HandsSheet]{Most: api.HandsText, Modulus: 229, Print: hands.Print, Read: hands.Read, Same: sameSheet}
}

func checked(lines ...string) string { return texts().Checked(lines...) }

// P2.7
func TestPrint(t *testing.T) {
	far := list(-999, -999, -999, -999, -999, -999)
	for i, x := range []struct {
		s    api.HandsSheet
		want string
	}{
		{sheet(list(0), list(0)), "hands 0\nrow 0\nend 131\n"},
		{sheetA(), checked("hands 1 1", "row 123 132", "row 45 45", "row -60 60", "row 7 7")},
		{sheetB(), checked("hands 1 1 0", "row 123 132 123", "row 45 45 45", "row -60 60 60", "row 7 7 7")},
		{sheet(list(2, 2, 2), far, far, far), checked(strings.Split("hands 2 2 2"+strings.Repeat(",row -999 -999 -999", 6), ",")...)},
	} {
		if got, e := hands.Print(x.s); e != api.OK || got != x.want {
			t.Errorf("%d: %q %v", i, got, e)
		}
	}
}

// P2.7
func TestReadForm(t *testing.T) {
	lines := trial.List("hands 0", "row 0")
	wrong := slices.Concat(texts().Spoilt(lines...), trial.List(
		checked("row 0"), checked("row 0", "hands 0"), checked("row 0", "row 0"), checked("hands 0", "hands 0"), checked("hands 0", "row 0", "hands 0"), checked("hands 0", "hands 0", "row 0"),
		// each row has as many numbers as there are hands, of which there is one at least
		checked("hands"), checked("hands", "row"), checked("hands 0", "row"), checked("hands 0", "row 0 0"), checked("hands 0 0", "row 0"), checked("hands 0 0", "row 0 0", "row 0"), checked("hands 0 0 0", "row 0 0 0", "row 0 0 0 0", "row 0 0 0"), checked("hands 0", "row 0", "row"),
	))
	wrong = append(wrong, texts().WithLine(lines, 0,
		"hands 00", "hands 01", "hands +0", "hands -0", "hands -1", "hands  0", "hands 0 ", " hands 0", "hands ", "hands 0x0", "hands 0.0", "hands 1_0", "hands x", "hands 1000", "hands 18446744073709551616", "hands 0\r", "hands 0\x00", "hands \u0660", "hands \xff", "Hands 0", "hand 0", "0", "",
	)...)
	wrong = append(wrong, texts().WithLine(lines, 1,
		"row -0", "row 00", "row 01", "row -01", "row +0", "row - 0", "row -", "row --1", "row 1-", "row  0", "row 0 ", " row 0", "row ", "row 1000", "row -1000", "row 0999", "row 18446744073709551616", "row 0\r", "row 0\x00", "row \u0660", "row \xff", "Row 0", "line 0", "0", "",
	)...)
	for _, text := range texts().Taken(wrong...) {
		t.Errorf("%q", text)
	}
}

// P2.7: ErrLong comes before ErrText, and ErrText before ErrArg.
func TestReadErrors(t *testing.T) {
	far := strings.Split("hands 200 200 200"+strings.Repeat(",row -999 -999 -999", 6), ",")
	most, long := checked(append(far, "row 1 0 0")...), checked(append(far, "row 10 0 0")...)
	if len(most) != api.HandsText || len(long) != api.HandsText+1 {
		t.Fatal(len(most), len(long))
	}
	for text, want := range map[string]api.Errno{
		long: api.ErrLong, strings.Repeat("x", 151): api.ErrLong, checked("hands 0", "row 0") + strings.Repeat("\n", 129): api.ErrLong, strings.Repeat("x", 150): api.ErrText,
		checked("hands 3", "row 0 0"): api.ErrText, strings.Replace(checked("hands 3"), "end ", "end 9", 1): api.ErrText,
		// the form with any numbers, and any number of rows
		most: api.ErrArg, checked("hands 0"): api.ErrArg, checked("hands 3"): api.ErrArg, checked("hands 3", "row 0"): api.ErrArg, checked("hands 999", "row 0"): api.ErrArg, checked("hands 0 3", "row 0 0"): api.ErrArg,
		checked("hands 0 0 0 0", "row 0 0 0 0"): api.ErrArg, checked("hands 0", "row 1", "row 2", "row 3", "row 4", "row 5", "row 6", "row 7"): api.ErrArg,
	} {
		if !texts().Reads(text, want) {
			t.Errorf("%q %v", text, want)
		}
	}
}

// P2.7, P0.11: what was written is read as what was written.
func TestReadWhatWasWritten(t *testing.T) {
	far := list(-999, -999, -999, -999, -999, -999)
	all := trial.List(sheet(list(0), list(0)), sheet(list(2, 2, 2), far, far, far), sheet(list(2), far))
	sheets(t, 3000, func(t *testing.T, _ *dice, s api.HandsSheet, _ []int) { all = append(all, s) })
	for _, s := range all {
		if !texts().ReadsBack(s) {
			t.Error(s)
		}
	}
}

// P2.7: one digit that was changed is noticed.
func TestChangedDigit(t *testing.T) {
	sheets(t, 300, func(t *testing.T, _ *dice, s api.HandsSheet, _ []int) {
		if !texts().Notices(s) {
			t.Error(s)
		}
	})
}

// P0.12: with any other byte, or without one, a text is read or refused, and what is read is what is written again.
func TestReadAnyBytes(t *testing.T) {
	for _, text := range texts().Strange(sheetB()) {
		t.Errorf("%q", text)
	}
}
