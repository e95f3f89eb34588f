package round_test

import (
	"slices"
	"strings"
	"testing"

	"ephemerist/api"
	"ephemerist/round"
	"ephemerist/trial"
)

func texts() trial.Texts[api.RoundSheet] {
	return trial.Texts[api.RoundSheet]{Most: api.RoundText, Modulus: 239, Print: round.Print, Read: round.Read, Same: sameSheet}
}

func checked(lines ...string) string { return texts().Checked(lines...) }

// linesOf returns the lines of a text with as many Errs and rows as are wanted.
func linesOf(first, guard string, guards int, row string, rows int) []string {
	return slices.Concat(trial.List(first), slices.Repeat(trial.List(guard), guards), slices.Repeat(trial.List(row), rows))
}

// farthest returns the sheet with the longest text.
func farthest() api.RoundSheet {
	return widest(1000, even, -100000, -100000, -100000, -100000, -100000)
}

// P4.7
func TestPrint(t *testing.T) {
	for i, x := range []struct {
		s    api.RoundSheet
		want string
	}{
		{sheetOfText(), "round 1 down\nguard 0\nrow 0\nend 124\n"},
		{sheetA(), checked("round 10 near", "guard 4", "guard 1", "guard 0", "row 13", "row 26", "row 44")},
		{sheet(7, up, list(3, 3), -1, 0, 1), checked("round 7 up", "guard 3", "guard 3", "row -1", "row 0", "row 1")},
		{farthest(), checked(linesOf("round 1000 even", "guard 8", 5, "row -100000", 5)...)},
	} {
		if got, e := round.Print(x.s); e != api.OK || got != x.want {
			t.Errorf("%d: %q %v", i, got, e)
		}
	}
}

// P4.7
func TestReadForm(t *testing.T) {
	lines := trial.List("round 1 down", "guard 0", "row 0")
	wrong := slices.Concat(texts().Spoilt(lines...), trial.List(
		checked("guard 0", "row 0"), checked("row 0"), checked("row 0", "round 1 down"), checked("guard 0", "round 1 down", "row 0"), checked("round 1 down", "row 0", "guard 0"), checked("round 1 down", "guard 0", "row 0", "guard 0"), checked("round 1 down", "round 1 down"), checked("round 1 down", "guard 0", "row 0", "round 1 down"), checked("round 1 down", "guard 0", "round 1 down", "row 0"),
	))
	wrong = append(wrong, texts().WithLine(lines, 0,
		"round", "round ", "round 1", "round 1 ", "round down", "round down 1", "round  down", "round 1 down ", "round 1 down 1", "round 1 down down", " round 1 down", "round  1 down", "round 1  down",
		"round -1 down", "round -0 down", "round +1 down", "round 01 down", "round 00 down", "round 1000000 down", "round 18446744073709551617 down", "round 0x1 down", "round 1.0 down", "round x down", "round \u0661 down", "round \xff down",
		"round 1 Down", "round 1 DOWN", "round 1 dow", "round 1 downs", "round 1 odd", "round 1 1", "round 1 0", "round 1 round", "round 1 guard", "round 1 nearest", "round 1 up down", "round 1 \x00", "round 1 down\r", "round 1 down\x00", "Round 1 down", "rounds 1 down", "1 down", "",
	)...)
	for at, word := range trial.List("", "guard", "row") {
		if at > 0 {
			wrong = append(wrong, texts().WithLine(lines, at, spoiltNumbers(word)...)...)
		}
	}
	wrong = append(wrong, texts().WithLine(lines, 1, "guard -1", "guard -7", "guard down", "guard 0 down", "Guard 0", "guards 0", "guar 0", "0", "")...)
	wrong = append(wrong, texts().WithLine(lines, 2, "row -1000000", "row - 1", "row --1", "row 1-", "row -01", "Row 0", "rows 0", "ro 0", "0", "")...)
	for _, text := range texts().Taken(wrong...) {
		t.Errorf("%q", text)
	}
}

// spoiltNumbers returns lines with a word that do not have a single number.
func spoiltNumbers(word string) []string {
	out := trial.List(word, word+"0", " "+word+" 0", word+" 0 ", word+"  0", word+" 0 0")
	for _, number := range trial.List("", "-", "-0", "+0", "+1", "00", "01", "1000000", "0000001", "18446744073709551616", "0.0", "0x0", "x", "0\r", "0\x00", "\u0660", "\xff", "1e1", "1_0") {
		out = append(out, word+" "+number)
	}
	return out
}

// P4.7: ErrLong comes before ErrText, and ErrText before ErrArg.
func TestReadErrors(t *testing.T) {
	most := checked(slices.Concat(linesOf("round 100 down", "guard 8", 5, "row -100000", 6), trial.List("row 1000", "row 1"))...)
	long := checked(slices.Concat(linesOf("round 100 down", "guard 8", 5, "row -100000", 6), trial.List("row 1000", "row 10"))...)
	if len(most) != api.RoundText || len(long) != api.RoundText+1 {
		t.Fatal(len(most), len(long))
	}
	for text, want := range map[string]api.Errno{
		long: api.ErrLong, strings.Repeat("x", 151): api.ErrLong, checked("round 1 down", "guard 0", "row 0") + strings.Repeat("\n", 116): api.ErrLong, strings.Repeat("x", 150): api.ErrText,
		checked("round 0 down", "guard 0", "row 0 0"): api.ErrText, checked("round 0 odd", "guard 0", "row 0"): api.ErrText, strings.Replace(checked("round 0 down"), "end ", "end 9", 1): api.ErrText,
		// the form with any numbers, and any number of lines
		most: api.ErrArg, checked("round 1 down"): api.ErrArg, checked("round 1 down", "guard 0"): api.ErrArg, checked("round 1 down", "row 0"): api.ErrArg,
		checked("round 0 up", "guard 0", "row 0"): api.ErrArg, checked("round 1001 near", "guard 0", "row 0"): api.ErrArg, checked("round 999999 even", "guard 0", "row 0"): api.ErrArg, checked("round 1 down", "guard 9", "row 0"): api.ErrArg, checked("round 1 down", "guard 999999", "row 0"): api.ErrArg, checked("round 1 down", "guard 1", "guard 2", "row 0"): api.ErrArg,
		checked("round 1 down", "guard 0", "row 100001"): api.ErrArg, checked("round 1 down", "guard 0", "row 0", "row -999999"): api.ErrArg, checked("round 1 down", "guard 0", "row 999999"): api.ErrArg,
		checked(linesOf("round 1 down", "guard 0", 6, "row 0", 1)...): api.ErrArg, checked(linesOf("round 1 down", "guard 0", 1, "row 0", 6)...): api.ErrArg,
	} {
		if !texts().Reads(text, want) {
			t.Errorf("%q %v", text, want)
		}
	}
}

// P4.7, P0.11: what was written is read as what was written.
func TestReadWhatWasWritten(t *testing.T) {
	all := trial.List(farthest(), sheet(1000, up, list(8), 100000), sheet(1, near, list(0, 0, 0, 0, 0), -1, 1, 99999, -99999, 0))
	sheets(t, 3000, func(t *testing.T, _ *dice, s api.RoundSheet) { all = append(all, s) })
	for _, s := range all {
		if !texts().ReadsBack(s) {
			t.Error(s)
		}
	}
}

// P4.7: one digit that was changed is noticed.
func TestChangedDigit(t *testing.T) {
	sheets(t, 300, func(t *testing.T, _ *dice, s api.RoundSheet) {
		if !texts().Notices(s) {
			t.Error(s)
		}
	})
}

// P0.12: with any other byte, or without one, a text is read or refused, and what is read is what is written again.
func TestReadAnyBytes(t *testing.T) {
	for _, text := range texts().Strange(sheetA()) {
		t.Errorf("%q", text)
	}
}
