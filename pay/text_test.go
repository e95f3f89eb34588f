package pay_test

import (
	"slices"
	"strings"
	"testing"

	"ephemerist/api"
	"ephemerist/pay"
	"ephemerist/trial"
)

func texts() trial.Texts[api.PayBook] {
	return trial.Texts[api.PayBook]{Most: api.PayText, Modulus: 263, Print: pay.Print, Read: pay.Read, Same: sameBook}
}

func checked(lines ...string) string { return texts().Checked(lines...) }

// lines returns the lines of the chapter's text, without the last one.
func lines() []string { return trial.List("pay 1 1 0 0 0 0", "line 0 0 0 0 0 0 0 0 0 0") }

// P8.7
func TestPrint(t *testing.T) {
	far := "line 2 20 17 20 10 10 999 19 11 3"
	for i, x := range []struct {
		b    api.PayBook
		want string
	}{
		{bookOfText(), "pay 1 1 0 0 0 0\nline 0 0 0 0 0 0 0 0 0 0\nend 245\n"},
		{bookA(), checked("pay 2 4 30 5 12 2", "line 0 3 1 2 1 0 0 2 0 0", "line 1 2 0 1 0 3 0 1 3 0", "line 0 2 0 0 2 1 0 1 9 0")},
		{book(3, 5, 6, 7, 8, 9, line(2, 3, 4, 5, 6, 7, 8*960+9*48+10*4+1)), checked("pay 3 5 6 7 8 9", "line 2 3 4 5 6 7 8 9 10 1")},
		{longest(), checked("pay 3 48 800 800 800 800", far, far, far, far, far)},
	} {
		if got, e := pay.Print(x.b); e != api.OK || got != x.want {
			t.Errorf("%d: %q %v", i, got, e)
		}
	}
}

// P8.7
func TestReadForm(t *testing.T) {
	first, one := lines()[0], lines()[1]
	wrong := append(texts().Spoilt(lines()...),
		// not in order, or without the first line, or with it once more
		checked(one), checked(one, one), checked(one, first), checked(first, first), checked(first, first, one), checked(first, one, first), checked(one, first, one), checked(first, "", one),
	)
	wrong = append(wrong, texts().WithLine(lines(), 0, trial.NotNaturals("pay", 6, 3)...)...)
	wrong = append(wrong, texts().WithLine(lines(), 1, trial.NotNaturals("line", 10, 3)...)...)
	// the words of the two lines do not have the numbers of each other, or others
	for _, many := range list(0, 1, 4, 5, 7, 9, 10, 11) {
		wrong = append(wrong, texts().WithLine(lines(), 0, "pay"+strings.Repeat(" 1", many))...)
	}
	for _, many := range list(0, 1, 4, 6, 7, 8, 9, 11, 12) {
		wrong = append(wrong, texts().WithLine(lines(), 1, "line"+strings.Repeat(" 1", many))...)
	}
	for at, rest := range trial.List(" 1 1 0 0 0 0", " 0 0 0 0 0 0 0 0 0 0") {
		for _, word := range trial.List("Pay", "pays", "pa", "Line", "lines", "lin", "lime", "say", "end", "book", "") {
			wrong = append(wrong, texts().WithLine(lines(), at, word+rest)...)
		}
		wrong = append(wrong, texts().WithLine(lines(), at, "end 000", "", " ")...)
	}
	for _, text := range texts().Taken(wrong...) {
		t.Errorf("%q", text)
	}
}

// P8.7: ErrLong comes before ErrText, and ErrText before ErrArg.
func TestReadErrors(t *testing.T) {
	first, one := lines()[0], lines()[1]
	with := func(line string, many int) string {
		return checked(append(trial.List(first), slices.Repeat(trial.List(line), many)...)...)
	}
	// a line with numbers of three digits
	full := "line" + strings.Repeat(" 100", 10)
	for text, want := range map[string]api.Errno{
		strings.Repeat("x", 231): api.ErrLong, strings.Repeat("\n", 231): api.ErrLong, with(one, 9): api.ErrLong, with(full, 5): api.ErrLong, checked(lines()...) + strings.Repeat("\n", 200): api.ErrLong, strings.Repeat("x", 230): api.ErrText,
		checked("pay 9 9 9 9 9 9", "line 9"): api.ErrText, strings.Replace(checked("pay 9 9 9 9 9 9"), "end ", "end 9", 1): api.ErrText, checked("pay 1000 1 0 0 0 0", one): api.ErrText,
		// the form with any numbers, and any number of lines, also without any
		checked(first): api.ErrArg, checked("pay 0 0 0 0 0 0"): api.ErrArg, checked("pay 999 999 999 999 999 999", full): api.ErrArg, with(one, 6): api.ErrArg, with(full, 4): api.ErrArg, with(one, 5): api.OK, with(one, 1): api.OK, with("line 0 20 17 20 10 10 999 19 11 3", 5): api.OK,
		checked("pay 0 1 0 0 0 0", one): api.ErrArg, checked("pay 4 1 0 0 0 0", one): api.ErrArg, checked("pay 1 0 0 0 0 0", one): api.ErrArg, checked("pay 1 49 0 0 0 0", one): api.ErrArg, checked("pay 1 1 801 0 0 0", one): api.ErrArg, checked("pay 1 1 0 801 0 0", one): api.ErrArg, checked("pay 1 1 0 0 801 0", one): api.ErrArg, checked("pay 1 1 0 0 0 801", one): api.ErrArg, checked("pay 3 48 800 800 800 800", one): api.OK,
		with("line 1 0 0 0 0 0 0 0 0 0", 1): api.ErrArg, with("line 0 21 0 0 0 0 0 0 0 0", 1): api.ErrArg, with("line 0 0 1 0 0 0 0 0 0 0", 1): api.ErrArg, with("line 0 0 0 4 0 0 0 0 0 0", 1): api.ErrArg, with("line 0 0 20 21 0 0 0 0 0 0", 1): api.ErrArg, with("line 0 0 0 0 11 0 0 0 0 0", 1): api.ErrArg, with("line 0 0 0 0 0 11 0 0 0 0", 1): api.ErrArg, with("line 0 0 0 0 0 0 0 20 0 0", 1): api.ErrArg, with("line 0 0 0 0 0 0 0 0 12 0", 1): api.ErrArg, with("line 0 0 0 0 0 0 0 0 0 4", 1): api.ErrArg, with("line 0 0 0 0 0 0 999 0 0 0", 1): api.OK,
	} {
		got, e := pay.Read(text)
		if e != want || e != api.OK && !sameBook(got, api.PayBook{}) {
			t.Errorf("%q %v %v %v", text, got, e, want)
		}
	}
}

// P8.7: a text has 230 bytes at most.
func TestLongestText(t *testing.T) {
	fill := func(bytes int) string {
		rest := bytes - len(checked(lines()...)) - len("line 0\n")
		return checked(append(lines(), "line 0"+strings.Repeat(" ", rest))...)
	}
	for bytes, want := range map[int]api.Errno{229: api.ErrText, 230: api.ErrText, 231: api.ErrLong} {
		if got, e := pay.Read(fill(bytes)); len(fill(bytes)) != bytes || e != want || !sameBook(got, api.PayBook{}) {
			t.Error(len(fill(bytes)), got, e)
		}
	}
	if text, e := pay.Print(longest()); e != api.OK || len(text) > api.PayText {
		t.Error(len(text), e)
	}
}

// P8.7, P0.11: what was written is read as what was written.
func TestReadWhatWasWritten(t *testing.T) {
	books(t, 3000, func(t *testing.T, _ *dice, b api.PayBook) {
		if !texts().ReadsBack(b) {
			t.Error(b)
		}
	})
}

// P8.7: one digit that was changed is noticed.
func TestChangedDigit(t *testing.T) {
	books(t, 300, func(t *testing.T, _ *dice, b api.PayBook) {
		if !texts().Notices(b) {
			t.Error(b)
		}
	})
}

// P0.12: with any other byte, or without one, a text is read or refused, and what is read is what is written again.
func TestReadAnyBytes(t *testing.T) {
	for _, b := range append(others(), bookA()) {
		for _, text := range texts().Strange(b) {
			t.Errorf("%q", text)
		}
	}
}
