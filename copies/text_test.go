package copies_test

import (
	"slices"
	"strings"
	"testing"

	"ephemerist/api"
	"ephemerist/copies"
	"ephemerist/trial"
)

func texts() trial.Texts[api.CopiesTree] {
	return trial.Texts[api.CopiesTree]{Most: api.CopiesText, Modulus: 257, Print: copies.Print, Read: copies.Read, Same: sameTree}
}

func checked(lines ...string) string { return texts().Checked(lines...) }

// lines returns the lines of the chapter's text, without the last one.
func lines() []string { return trial.List("copies 2", "copy 0 4?", "copy 0 41") }

// P7.8
func TestPrint(t *testing.T) {
	for i, x := range []struct {
		t    api.CopiesTree
		want string
	}{
		{treeOfText(), "copies 2\ncopy 0 4?\ncopy 0 41\nend 050\n"},
		{treeA(), checked("copies 2", "copy 0 47", "copy 0 ??", "copy 1 41", "copy 1 41", "copy 0 ?7", "copy 4 87")},
		{tree("0?"), checked("copies 1", "copy 0 ?")}, {tree("0019"), checked("copies 3", "copy 0 019")},
		{tree("0???", "0999", "1000", "2987", "3?1?", "4123", "5456", "6789"), checked("copies 3", "copy 0 ???", "copy 0 999", "copy 1 000", "copy 2 987", "copy 3 ?1?", "copy 4 123", "copy 5 456", "copy 6 789")},
	} {
		if got, e := copies.Print(x.t); e != api.OK || got != x.want {
			t.Errorf("%d: %q %v", i, got, e)
		}
	}
}

// P7.8
func TestReadForm(t *testing.T) {
	first, one, other := lines()[0], lines()[1], lines()[2]
	wrong := append(texts().Spoilt(lines()...),
		// not in order, or without the first line, or with it once more
		checked(one, other), checked(one), checked(one, first), checked(one, first, other), checked(one, other, first), checked(first, first), checked(first, first, one), checked(first, one, first, other), checked(first, one, other, first), checked(first, "", one), checked(first, one, "", other),
	)
	numbers := trial.List("", "-", "-0", "-1", "+0", "+1", "00", "01", "10", "100", "18446744073709551616", "0.0", "0x0", "x", "?", "1\t", "0\x00", "\u0660", "\xff", "1e1", "1_0")
	for _, n := range numbers {
		wrong = append(wrong, texts().WithLine(lines(), 0, "copies "+n)...)
		wrong = append(wrong, texts().WithLine(lines(), 1, "copy "+n+" 4?")...)
	}
	wrong = append(wrong, texts().WithLine(lines(), 0, "copies", "copies ", "copies  2", " copies 2", "copies 2 ", "copies 2 2", "copies 2 4?", "Copies 2", "COPIES 2", "copie 2", "copiess 2", "xcopies 2", "copy 2", "copy 0 2", "2", "end 000", "")...)
	for at := 1; at <= 2; at++ {
		wrong = append(wrong, texts().WithLine(lines(), at, "copy", "copy ", "copy 0", "copy 0 ", "copy 0  4?", "copy  0 4?", "copy  4?", "copy 4?", " copy 0 4?", "copy 0 4? ", "copy 0 4 ?", "copy 0 4? 4?", "copy 0 0 4?", "Copy 0 4?", "copies 0 4?", "copys 0 4?", "cop 0 4?", "xcopy 0 4?", "0 4?", "end 000", "")...)
		for _, seen := range trial.List("x", "4x", "x4", "-1", "4-1", "+4", "4.", "4,1", "4/", "4:", "4?!", "4>", "4@", "\xff", "4\xff", "4\x00", "\u0664", "4\u0661", "\uff1f", "4\t", "4\r", "4\u00a0?", "?\ufffd") {
			wrong = append(wrong, texts().WithLine(lines(), at, "copy 0 "+seen)...)
		}
	}
	for _, text := range texts().Taken(wrong...) {
		t.Errorf("%q", text)
	}
}

// P7.8: ErrLong comes before ErrText, and ErrText before ErrArg.
func TestReadErrors(t *testing.T) {
	long := func(one, other int) string {
		return checked("copies 3", "copy 0 "+strings.Repeat("1", one), "copy 0 "+strings.Repeat("?", other))
	}
	with := func(line string, many int) string {
		return checked(append(trial.List("copies 1"), slices.Repeat(trial.List(line), many)...)...)
	}
	if len(long(41, 41)) != api.CopiesText || len(long(41, 42)) != api.CopiesText+1 {
		t.Fatal(len(long(41, 41)))
	}
	for text, want := range map[string]api.Errno{
		long(41, 42): api.ErrLong, strings.Repeat("x", 116): api.ErrLong, checked(lines()...) + strings.Repeat("\n", 100): api.ErrLong, with("copy 0 7", 50): api.ErrLong, strings.Repeat("x", 115): api.ErrText, long(41, 40) + "\n": api.ErrText, checked("copies 9", "copy 0"): api.ErrText, strings.Replace(checked("copies 9"), "end ", "end 9", 1): api.ErrText,
		// the form with any digits, any number of lines, also without any, and any number of FIGURES but none
		long(41, 41): api.ErrArg, long(1, 81): api.ErrArg, checked("copies 0"): api.ErrArg, checked("copies 2"): api.ErrArg, checked("copies 9"): api.ErrArg, checked("copies 0", "copy 0 4"): api.ErrArg, checked("copies 4", "copy 0 4444"): api.ErrArg, checked("copies 9", "copy 0 444444444"): api.ErrArg,
		checked("copies 2", "copy 0 4"): api.ErrArg, checked("copies 2", "copy 0 ???"): api.ErrArg, checked("copies 2", "copy 0 41", "copy 0 4"): api.ErrArg, checked("copies 2", "copy 0 41", "copy 0 411"): api.ErrArg,
		checked("copies 1", "copy 1 4"): api.ErrArg, checked("copies 1", "copy 9 4"): api.ErrArg, checked("copies 1", "copy 0 4", "copy 1 4"): api.ErrArg, checked("copies 1", "copy 0 4", "copy 0 4", "copy 2 4"): api.ErrArg, checked("copies 1", "copy 0 4", "copy 0 4", "copy 9 4"): api.ErrArg,
		with("copy 0 7", 0): api.ErrArg, with("copy 0 7", 9): api.ErrArg, with("copy 0 7", 10): api.ErrArg, with("copy 0 7", 8): api.OK, with("copy 0 ?", 1): api.OK, checked("copies 3", "copy 0 ?9?"): api.OK, checked("copies 1", "copy 0 4", "copy 0 4", "copy 1 4"): api.OK,
	} {
		got, e := copies.Read(text)
		if e != want || e != api.OK && !sameTree(got, api.CopiesTree{}) {
			t.Errorf("%q %v %v %v", text, got, e, want)
		}
	}
}

// P7.8, P0.11: what was written is read as what was written.
func TestReadWhatWasWritten(t *testing.T) {
	trees(t, 3000, func(t *testing.T, _ *dice, x api.CopiesTree) {
		if !texts().ReadsBack(x) {
			t.Error(x)
		}
	})
}

// P7.8: one digit that was changed is noticed.
func TestChangedDigit(t *testing.T) {
	trees(t, 300, func(t *testing.T, _ *dice, x api.CopiesTree) {
		if !texts().Notices(x) {
			t.Error(x)
		}
	})
}

// P0.12: with any other byte, or without one, a text is read or refused, and what is read is what is written again.
func TestReadAnyBytes(t *testing.T) {
	for _, x := range append(others(), treeA()) {
		for _, text := range texts().Strange(x) {
			t.Errorf("%q", text)
		}
	}
}
