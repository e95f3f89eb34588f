package give_test

import (
	"strings"
	"testing"

	"ephemerist/api"
	"ephemerist/give"
	"ephemerist/trial"
)

func texts() trial.Texts[api.GiveBook] {
	return trial.Texts[api.GiveBook]{Most: api.GiveText, Modulus: 251, Print: give.Print, Read: give.Read, Same: sameBook}
}

func checked(lines ...string) string { return texts().Checked(lines...) }

// lines returns the lines of the chapter's text, without the last one.
func lines() []string { return trial.List("give", "computer 0 0 0 1 1 1 1", "table 0", "sheet 0") }

// P6.7
func TestPrint(t *testing.T) {
	far := "computer 2 5 5 5 5 3 3"
	for i, x := range []struct {
		b    api.GiveBook
		want string
	}{
		{bookOfText(), "give\ncomputer 0 0 0 1 1 1 1\ntable 0\nsheet 0\nend 031\n"},
		{bookA(), checked("give", "computer 0 1 2 2 3 1 1", "computer 1 0 1 1 2 1 2", "computer 0 0 0 3 3 1 1", "table 12", "table 9", "sheet 0", "sheet 1")},
		{longest(), checked("give", far, far, far, far, "table 99", "table 99", "sheet 1", "sheet 1", "sheet 1")},
	} {
		if got, e := give.Print(x.b); e != api.OK || got != x.want {
			t.Errorf("%d: %q %v", i, got, e)
		}
	}
}

// P6.7
func TestReadForm(t *testing.T) {
	give, computer, table, sheet := lines()[0], lines()[1], lines()[2], lines()[3]
	wrong := append(texts().Spoilt(lines()...),
		// not in order, or without the first line, or with it once more
		checked(computer, table, sheet), checked(computer), checked(computer, give), checked(table), checked(sheet), checked(give, give), checked(give, computer, table, sheet, give), checked(give, give, computer, table, sheet), checked(give, computer, give, table, sheet), checked(give, table, computer, sheet), checked(give, computer, sheet, table), checked(give, sheet, table), checked(give, sheet, computer), checked(give, table, computer), checked(give, computer, table, computer, sheet), checked(give, computer, table, sheet, table), checked(give, computer, table, sheet, computer), checked(give, computer, table, sheet, sheet, table),
	)
	wrong = append(wrong, texts().WithLine(lines(), 0, trial.NotNaturals("give", 0, 2)...)...)
	wrong = append(wrong, texts().WithLine(lines(), 0, "give 0", "gave", "book", "")...)
	for at, word := range trial.List("computer", "table", "sheet") {
		wrong = append(wrong, texts().WithLine(lines(), at+1, trial.NotNaturals(word, trial.List(7, 1, 1)[at], 2)...)...)
		wrong = append(wrong, texts().WithLine(lines(), at+1, word, word+" ", word+"  0", word+" 1 1", "shoot 0", "end 0", "")...)
	}
	for _, text := range texts().Taken(wrong...) {
		t.Errorf("%q", text)
	}
}

// P6.7: ErrLong comes before ErrText, and ErrText before ErrArg.
func TestReadErrors(t *testing.T) {
	many := func(line string, times int) []string {
		return append(trial.List("give"), strings.Split(strings.Repeat(line+"\n", times-1)+line, "\n")...)
	}
	// of lines with 9, 8 or 23 bytes some fill a text
	most, long := checked(append(many("table 10", 13), many("sheet 1", 5)[1:]...)...), checked(append(many("table 10", 14), many("sheet 1", 4)[1:]...)...)
	if len(most) != api.GiveText || len(long) != api.GiveText+1 {
		t.Fatal(len(most), len(long))
	}
	give, computer, table, sheet := lines()[0], lines()[1], lines()[2], lines()[3]
	for text, want := range map[string]api.Errno{
		long: api.ErrLong, strings.Repeat("x", 171): api.ErrLong, checked(lines()...) + strings.Repeat("\n", 120): api.ErrLong, strings.Repeat("x", 170): api.ErrText,
		checked(give, "computer 3 0 0 1 1 1 1", "table"): api.ErrText, strings.Replace(checked(give), "end ", "end 9", 1): api.ErrText,
		// the form with any numbers, and any number of lines, also without any
		most: api.ErrArg, checked(give): api.ErrArg, checked(give, computer): api.ErrArg, checked(give, table): api.ErrArg, checked(give, sheet): api.ErrArg, checked(give, computer, table): api.ErrArg, checked(give, computer, sheet): api.ErrArg, checked(give, table, sheet): api.ErrArg,
		checked(give, computer, computer, computer, computer, computer, table, sheet): api.ErrArg, checked(give, computer, table, table, table, sheet): api.ErrArg, checked(give, computer, table, sheet, sheet, sheet, sheet): api.ErrArg, checked(give, computer, table, table, sheet, sheet, sheet): api.OK,
		checked(give, computer, "table 99", sheet): api.OK, checked(give, computer, table, "sheet 1"): api.ErrArg, checked(give, computer, table, table, "sheet 1"): api.OK, checked(give, computer, table, "sheet 99"): api.ErrArg,
		checked(give, "computer 2 0 5 1 5 1 3", table, sheet): api.OK, checked(give, "computer 3 0 0 1 1 1 1", table, sheet): api.ErrArg, checked(give, "computer 0 0 6 1 1 1 1", table, sheet): api.ErrArg, checked(give, "computer 0 2 1 1 1 1 1", table, sheet): api.ErrArg, checked(give, "computer 0 0 0 0 1 1 1", table, sheet): api.ErrArg, checked(give, "computer 0 0 0 1 6 1 1", table, sheet): api.ErrArg, checked(give, "computer 0 0 0 1 1 0 1", table, sheet): api.ErrArg, checked(give, "computer 0 0 0 1 1 1 4", table, sheet): api.ErrArg, checked(give, "computer 99 99 99 99 99 99 99", table, sheet): api.ErrArg,
	} {
		got, e := texts().Read(text)
		if e != want || e != api.OK && !sameBook(got, api.GiveBook{}) {
			t.Errorf("%q %v %v %v", text, got, e, want)
		}
	}
}

// P6.7, P0.11: what was written is read as what was written.
func TestReadWhatWasWritten(t *testing.T) {
	written := trial.List(bookA(), bookOfText(), longest(), slow(), withDues(bookOfText(), 0, 99))
	d := &dice{}
	for range 3000 {
		written = append(written, d.widest())
	}
	for _, b := range written {
		if !texts().ReadsBack(b) {
			t.Error(b)
		}
	}
}

// P6.7: one digit that was changed is noticed.
func TestChangedDigit(t *testing.T) {
	books(t, 300, 1<<40, func(t *testing.T, _ *dice, b api.GiveBook) {
		if !texts().Notices(b) {
			t.Error(b)
		}
	})
}

// P0.12: with any other byte, or without one, a text is read or refused, and what is read is what is written again.
func TestReadAnyBytes(t *testing.T) {
	for _, text := range texts().Strange(bookA()) {
		t.Errorf("%q", text)
	}
}
