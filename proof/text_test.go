package proof_test

import (
	"slices"
	"strings"
	"testing"

	"ephemerist/api"
	"ephemerist/proof"
	"ephemerist/trial"
)

func texts() trial.Texts[api.ProofPage] {
	return trial.Texts[api.ProofPage]{Most: api.ProofText, Modulus: 269, Print: proof.Print, Read: proof.Read, Same: samePage}
}

func checked(lines ...string) string { return texts().Checked(lines...) }

// lines returns the lines of a text with an entry of each kind, without the last
// one.
func lines() []string {
	return trial.List("page 2", "line 0 5 5", "read 0 1 0 0", "mend 1 0 5", "fall 0")
}

// P9.8
func TestPrint(t *testing.T) {
	far, worst := slices.Repeat(trial.List("line 5 -999 -999"), 6), slices.Repeat(trial.List("mend 5 5 -999"), 10)
	for i, x := range []struct {
		p    api.ProofPage
		want string
	}{
		{pageOfText(), "page 2\nline 0 5 5\nfall 0\nend 075\n"}, {page(2, set(0, 5, 5)), "page 2\nline 0 5 5\nend 148\n"},
		{pageA(), checked("page 4", "line 0 123 132", "line 1 45 45", "line 0 -7 7", "read 1 2 0 2", "mend 2 0 123", "read 0 3 0 1", "fall 1")},
		{page(3, set(2, 0, -1, 0, 999, -999), fall(1), mend(1, 0, -10), fall(0), read(0, 2, 1, 1), mend(2, 1, 0), fall(1)), checked("page 3", "line 2 0 -1", "line 0 999 -999", "fall 1", "mend 1 0 -10", "fall 0", "read 0 2 1 1", "mend 2 1 0", "fall 1")},
		{longest(), checked(slices.Concat(trial.List("page 6"), far, worst)...)},
	} {
		if got, e := proof.Print(x.p); e != api.OK || got != x.want {
			t.Errorf("%d: %q %v", i, got, e)
		}
	}
}

// P9.8
func TestReadForm(t *testing.T) {
	first, line, read, mend, fall := lines()[0], lines()[1], lines()[2], lines()[3], lines()[4]
	wrong := append(texts().Spoilt(lines()...),
		// not in order, or without the first line, or with it once more
		checked(line), checked(read), checked(fall), checked(line, fall), checked(line, first), checked(fall, line, first), checked(first, first), checked(first, first, line), checked(first, line, first), checked(first, line, fall, first), checked(first, fall, line), checked(first, read, line), checked(first, mend, line), checked(first, line, read, line), checked(first, line, mend, line), checked(first, line, fall, line, fall), checked(first, "", line), checked(first, line, "", fall),
	)
	for at, many := range [][2]int{{1, 0}, {1, 2}, {4, 0}, {2, 1}, {1, 0}} {
		word, rest, _ := strings.Cut(lines()[at], " ")
		wrong = append(wrong, texts().WithLine(lines(), at, trial.NotNumbers(word, many[0], many[1], 3)...)...)
		for other := range 8 {
			if other != many[0]+many[1] {
				wrong = append(wrong, texts().WithLine(lines(), at, word+strings.Repeat(" 1", other))...)
			}
		}
		for _, other := range trial.List("pages", "pag", "lines", "lime", "reads", "red", "mends", "men", "falls", "fal", "proof", "end", "set", "") {
			wrong = append(wrong, texts().WithLine(lines(), at, other+" "+rest)...)
		}
		wrong = append(wrong, texts().WithLine(lines(), at, "end 000", "", " ")...)
	}
	for _, text := range texts().Taken(wrong...) {
		t.Errorf("%q", text)
	}
}

// P9.8: the words of entries stand in any order, and those that can have a sign are read with one.
func TestReadEntries(t *testing.T) {
	for text, want := range map[string]api.ProofPage{
		checked(lines()...): page(2, set(0, 5, 5), read(0, 1, 0, 0), mend(1, 0, 5), fall(0)), checked("page 3", "line 2 -10 -999", "line 0 0 -1", "fall 1", "mend 1 0 -100", "fall 0", "read 1 2 0 1", "fall 0", "read 0 2 1 1", "mend 0 0 0"): page(3, set(2, -10, -999, 0, 0, -1), fall(1), mend(1, 0, -100), fall(0), read(1, 2, 0, 1), fall(0), read(0, 2, 1, 1), mend(0, 0, 0)),
	} {
		if got, e := proof.Read(text); e != api.OK || !samePage(got, want) {
			t.Errorf("%q %v %v", text, got, e)
		}
	}
}

// P9.8: ErrLong comes before ErrText, and ErrText before ErrArg.
func TestReadErrors(t *testing.T) {
	with := func(many int, line string, more ...string) string {
		return checked(slices.Concat(trial.List("page 2"), slices.Repeat(trial.List(line), many), more)...)
	}
	full := with(15, "line 100 100 100")
	long := strings.Replace(full, "page 2\n", "page 20\n", 1)
	if len(full) != api.ProofText || len(long) != api.ProofText+1 {
		t.Fatal(len(full), len(long))
	}
	one, entry := "line 0 5 5", func(written string) string { return checked("page 2", "line 0 5 5", written) }
	for text, want := range map[string]api.Errno{
		long: api.ErrLong, checked(append(trial.List("page 20"), slices.Repeat(trial.List("line 100 100 100"), 15)...)...): api.ErrLong, strings.Repeat("x", 271): api.ErrLong, strings.Repeat("\n", 271): api.ErrLong, checked(lines()...) + strings.Repeat("\n", 250): api.ErrLong, with(1, one, slices.Repeat(trial.List("fall 0"), 40)...): api.ErrLong, strings.Repeat("x", 270): api.ErrText,
		checked("page 9", "line 9"): api.ErrText, strings.Replace(checked("page 9"), "end ", "end 9", 1): api.ErrText, checked("page 1000", one): api.ErrText, entry("fall 1000"): api.ErrText, entry("mend -1 0 0"): api.ErrText, entry("mend 0 -1 0"): api.ErrText, checked("page 2", "line -1 5 5"): api.ErrText,
		// the form with any numbers, and any number of lines and entries, also without any
		full: api.ErrArg, checked("page 2"): api.ErrArg, checked("page 2", "fall 0"): api.ErrArg, checked("page 0"): api.ErrArg, checked("page 999"): api.ErrArg, with(7, one): api.ErrArg, with(6, one): api.OK, with(1, one): api.OK, with(1, one, slices.Repeat(trial.List("fall 0"), 10)...): api.OK, with(1, one, slices.Repeat(trial.List("fall 0"), 11)...): api.ErrArg,
		checked("page 1", one): api.ErrArg, checked("page 7", one): api.ErrArg, checked("page 6", one): api.OK, checked("page 2", "line 1 999 -999"): api.OK, checked("page 2", "line 2 5 5"): api.ErrArg, checked("page 2", "line 999 999 999"): api.ErrArg,
		entry("read 0 1 0 0"): api.OK, entry("read 1 0 0 0"): api.ErrArg, entry("read 0 0 0 0"): api.ErrArg, entry("read 0 2 0 0"): api.ErrArg, entry("read 0 1 0 1"): api.ErrArg, entry("read 0 1 1 1"): api.ErrArg, entry("read 999 999 999 999"): api.ErrArg, with(2, one, "read 0 1 1 0"): api.ErrArg, with(2, one, "read 0 1 0 1"): api.OK,
		entry("mend 1 0 -999"): api.OK, entry("mend 2 0 5"): api.ErrArg, entry("mend 0 1 5"): api.ErrArg, entry("mend 999 999 -999"): api.ErrArg, entry("fall 0"): api.OK, entry("fall 1"): api.ErrArg, entry("fall 999"): api.ErrArg,
	} {
		got, e := proof.Read(text)
		if e != want || e != api.OK && !samePage(got, api.ProofPage{}) {
			t.Errorf("%q %v %v %v", text, got, e, want)
		}
	}
}

// P9.8, P0.11: what was written is read as what was written.
func TestReadWhatWasWritten(t *testing.T) {
	pages(t, 3000, func(t *testing.T, _ *dice, p api.ProofPage) {
		if !texts().ReadsBack(p) {
			t.Error(p)
		}
	})
}

// P9.8: one digit that was changed is noticed.
func TestChangedDigit(t *testing.T) {
	pages(t, 300, func(t *testing.T, _ *dice, p api.ProofPage) {
		if !texts().Notices(p) {
			t.Error(p)
		}
	})
}

// P0.12: with any other byte, or without one, a text is read or refused, and what is read is what is written again.
func TestReadAnyBytes(t *testing.T) {
	for _, p := range append(others(), pageA()) {
		for _, text := range texts().Strange(p) {
			t.Errorf("%q", text)
		}
	}
}
