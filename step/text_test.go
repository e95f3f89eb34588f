package step_test

import (
	"slices"
	"strings"
	"testing"

	"ephemerist/api"
	"ephemerist/step"
	"ephemerist/trial"
)

func texts() trial.Texts[api.StepTable] {
	return trial.Texts[api.StepTable]{Most: api.StepText, Modulus: 241, Print: step.Print, Read: step.Read, Same: sameTable}
}

func checked(lines ...string) string { return texts().Checked(lines...) }

// linesOf returns the lines of a text with so many values.
func linesOf(first, value string, values int) []string {
	return append(trial.List(first), slices.Repeat(trial.List(value), values)...)
}

// farthest returns the table with the longest text.
func farthest() api.StepTable { return table(even, 100, slices.Repeat(list(-9999), 13)...) }

// P5.8
func TestPrint(t *testing.T) {
	for i, x := range []struct {
		t    api.StepTable
		want string
	}{
		{tableOfText(), "table 0 1\nvalue 5 6\nvalue 7 7\nend 053\n"},
		{tableA(), checked("table 10 3", "value 0 0", "value 10 10", "value 40 40", "value 90 91", "value 160 160", "value 250 250", "value 360 360")},
		{wide(up, 7, -1, 0, -4, -1, 9995, 9999), checked("table 7 2", "value -1 0", "value -4 -1", "value 9995 9999")},
		{farthest(), checked(linesOf("table 100 4", "value -9999 -9999", 13)...)},
	} {
		if got, e := step.Print(x.t); e != api.OK || got != x.want {
			t.Errorf("%d: %q %v", i, got, e)
		}
	}
}

// P5.8
func TestReadForm(t *testing.T) {
	lines := trial.List("table 0 1", "value 5 6", "value 7 7")
	wrong := slices.Concat(texts().Spoilt(lines...), trial.List(
		checked("value 5 6", "value 7 7"), checked("value 5 6", "table 0 1"), checked("value 5 6", "value 7 7", "table 0 1"), checked("value 5 6", "table 0 1", "value 7 7"), checked("table 0 1", "table 0 1"), checked("table 0 1", "table 0 1", "value 5 6", "value 7 7"), checked("table 0 1", "value 5 6", "table 0 1", "value 7 7"), checked("table 0 1", "value 5 6", "value 7 7", "table 0 1"),
	))
	// neither number of the first line has a sign
	wrong = append(wrong, texts().WithLine(lines, 0, spoiltNumbers("table", "0", "-1", "-9999")...)...)
	wrong = append(wrong, texts().WithLine(lines, 0, "Table 0 1", "tables 0 1", "tabl 0 1", "table 0 down", "table 0 near", "step 0 1", "0 1", "")...)
	for at := 1; at <= 2; at++ {
		wrong = append(wrong, texts().WithLine(lines, at, spoiltNumbers("value", "5", "-01", "-10000", "--1", "1-")...)...)
		wrong = append(wrong, texts().WithLine(lines, at, "Value 5 6", "values 5 6", "valu 5 6", "row 5 6", "5 6", "")...)
	}
	for _, text := range texts().Taken(wrong...) {
		t.Errorf("%q", text)
	}
}

// spoiltNumbers returns lines with a word that do not have just two numbers, of which one is right.
func spoiltNumbers(word, right string, more ...string) []string {
	two := word + " " + right + " " + right
	out := trial.List(word, word+" "+right, two+" "+right, " "+two, two+" ", word+right+" "+right, word+"  "+right+" "+right, word+" "+right+"  "+right, word+" "+right+right, word+" "+right+"\t"+right)
	for _, number := range append(more, "", "-", "-0", "+0", "+1", "00", "01", "10000", "00001", "18446744073709551616", "0.0", "0x0", "x", "0\r", "0\x00", "\u0660", "\xff", "1e1", "1_0") {
		out = append(out, word+" "+number+" "+right, word+" "+right+" "+number)
	}
	return out
}

// P5.8: ErrLong comes before ErrText, and ErrText before ErrArg.
func TestReadErrors(t *testing.T) {
	fill := func(last string) string {
		return checked(append(linesOf("table 100 4", "value -9999 -9999", 13), last)...)
	}
	most, long := fill("value -999 -999"), fill("value -999 -9999")
	if len(most) != api.StepText || len(long) != api.StepText+1 {
		t.Fatal(len(most), len(long))
	}
	for text, want := range map[string]api.Errno{
		long: api.ErrLong, strings.Repeat("x", 271): api.ErrLong, checked("table 0 1", "value 5 6", "value 7 7") + strings.Repeat("\n", 233): api.ErrLong, strings.Repeat("x", 270): api.ErrText,
		checked("table 0 5", "value 5 6", "value 7"): api.ErrText, strings.Replace(checked("table 0 5"), "end ", "end 9", 1): api.ErrText,
		// the form with any numbers, and any number of lines
		most: api.ErrArg, checked("table 0 1"): api.ErrArg, checked("table 0 1", "value 5 6"): api.ErrArg, checked("table 0 0", "value 5 6", "value 7 7"): api.ErrArg, checked("table 0 5", "value 5 6", "value 7 7"): api.ErrArg, checked("table 0 9999", "value 5 6", "value 7 7"): api.ErrArg, checked("table 101 1", "value 5 6", "value 7 7"): api.ErrArg, checked("table 9999 1", "value 5 6", "value 7 7"): api.ErrArg,
		checked("table 0 1", "value 9 6", "value 7 7"): api.ErrArg, checked("table 0 1", "value 5 6", "value 7 12"): api.ErrArg, checked("table 0 1", "value -9999 9999", "value 7 7"): api.ErrArg, checked("table 0 1", "value 5 6", "value 9999 -9999"): api.ErrArg,
		checked(linesOf("table 0 1", "value 0 0", 14)...): api.ErrArg, checked(linesOf("table 9999 9999", "value 1 0", 20)...): api.ErrArg,
	} {
		if !texts().Reads(text, want) {
			t.Errorf("%q %v", text, want)
		}
	}
}

// P5.8, P0.11: what was written is read as what was written.
func TestReadWhatWasWritten(t *testing.T) {
	written := trial.List(farthest(), tableOfText(), wide(up, 100, -9999, -9995, 9995, 9999), wide(near, 0, -4, 0, 0, 4, -2, 2))
	tables(t, 3000, func(t *testing.T, _ *dice, x api.StepTable) { written = append(written, x) })
	for _, x := range written {
		if !texts().ReadsBack(x) {
			t.Error(x)
		}
	}
}

// P5.8: one digit that was changed is noticed.
func TestChangedDigit(t *testing.T) {
	if !texts().Notices(farthest()) {
		t.Error(farthest())
	}
	tables(t, 300, func(t *testing.T, _ *dice, x api.StepTable) {
		if !texts().Notices(x) {
			t.Error(x)
		}
	})
}

// P0.12: with any other byte, or without one, a text is read or refused, and what is read is what is written again.
func TestReadAnyBytes(t *testing.T) {
	for _, text := range texts().Strange(tableB()) {
		t.Errorf("%q", text)
	}
}
