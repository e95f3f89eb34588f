package texts_test

import (
	"slices"
	"strings"
	"testing"

	"ephemerist/api"
	"ephemerist/texts"
	"ephemerist/trial"
)

// numbersLine is a line of a word and numbers.
type numbersLine struct {
	word    string
	numbers []int
}

// Text returns the line as it is written.
func (l numbersLine) Text() string { return texts.Numbers(l.word, l.numbers...) }

// Part returns 0 for a, 2 for plain, and 1 for any other word.
func (l numbersLine) Part() int {
	switch l.word {
	case "a":
		return 0
	case "plain":
		return 2
	}
	return 1
}

func lineOf(parts []string) texts.Line {
	if parts[0] == "plain" {
		return numbersLine{parts[0], texts.Naturals(parts[1:], 2)}
	}
	return numbersLine{parts[0], texts.Integers(parts[1:], 3)}
}

func linesOf(lines []texts.Line) []texts.Line { return lines }

// areFew tells whether there are no more than three lines.
func areFew(lines []texts.Line) bool { return len(lines) <= 3 }

func reading() texts.Reading[[]texts.Line] {
	return texts.Reading[[]texts.Line]{Most: 60, Modulus: 7, Line: lineOf, Whole: linesOf, Is: areFew}
}

// P0.11
func TestWriteAndRead(t *testing.T) {
	for i, x := range []struct {
		lines []texts.Line
		want  []string
	}{
		{trial.List[texts.Line](numbersLine{"a", nil}), list("a")},
		{trial.List[texts.Line](numbersLine{"a", trial.List(0, -1, 999, -999)}, numbersLine{"", trial.List(5)}, numbersLine{"plain", trial.List(0, 10, 99)}), list("a 0 -1 999 -999", " 5", "plain 0 10 99")},
	} {
		text := texts.Write(x.lines, 7)
		if text != trial.Checked(7, x.want...) {
			t.Errorf("%d: %q", i, text)
		}
		got, e := reading().Read(text)
		if e != api.OK || !slices.EqualFunc(got, x.lines, func(a, b texts.Line) bool { return a.Text() == b.Text() }) {
			t.Error(i, got, e)
		}
	}
}

func list(lines ...string) []string { return trial.List(lines...) }

// The first line alone is the part 0, and the parts are in order.
func TestParts(t *testing.T) {
	for _, lines := range [][]string{list("a"), list("a", "b"), list("a", "plain"), list("a", "b", "c"), list("a", "b", "plain"), list("a", "plain", "plain")} {
		if got, e := reading().Read(trial.Checked(7, lines...)); e != api.OK || len(got) != len(lines) {
			t.Error(lines, got, e)
		}
	}
	for _, lines := range [][]string{nil, list("b"), list("plain"), list("b", "a"), list("a", "a"), list("b", "plain"), list("a", "b", "a"), list("a", "plain", "b"), list("plain", "a", "b")} {
		if got, e := reading().Read(trial.Checked(7, lines...)); e != api.ErrText || got != nil {
			t.Error(lines, got, e)
		}
	}
}

func TestCheckHasThreeDigits(t *testing.T) {
	for modulus, want := range map[int]string{1: "end 000\n", 10: "end 007\n", 100: "end 097\n", 1000: "end 097\n"} {
		if got := texts.Write(trial.List[texts.Line](numbersLine{"a", nil}), modulus); got != "a\n"+want {
			t.Errorf("%d: %q", modulus, got)
		}
	}
}

func TestNumbersThatAreNone(t *testing.T) {
	for _, l := range list("a -0", "a 00", "a 01", "a -01", "a +1", "a --1", "a -", "a ", "a  1", "a 1 ", "a 1000", "a -1000", "a 1.0", "a 0x1", "a \u0661", "a \xff", "a 1\r") {
		if got, e := reading().Read(trial.Checked(7, l)); e != api.ErrText || got != nil {
			t.Errorf("%q %v", l, got)
		}
	}
	for _, l := range list("plain -1", "plain 100", "plain 1 -1", "plain 00", "plain +1", "plain x") {
		if got, e := reading().Read(trial.Checked(7, "a", l)); e != api.ErrText || got != nil {
			t.Errorf("%q %v", l, got)
		}
	}
}

func TestNoText(t *testing.T) {
	text := trial.Checked(7, "a 1", "plain 2")
	if _, e := reading().Read(text); e != api.OK {
		t.Fatal(text)
	}
	for _, no := range list("", "\n", "a 1\n", "end 000", "END 000\n", "end 0\n", "end 0000\n", "end 007\n", " end 000\n", text+"\n", text+text, "\n"+text, strings.TrimSuffix(text, "\n"), strings.Replace(text, "\n", "\r\n", 1), strings.Replace(text, "end ", "end  ", 1), strings.Replace(text, "end ", "end", 1)) {
		if got, e := reading().Read(no); e != api.ErrText || got != nil {
			t.Errorf("%q %v", no, got)
		}
	}
}

// R1: a text that is too long, one that is none, and one that tells nothing that is as defined.
func TestReadErrors(t *testing.T) {
	for text, want := range map[string]api.Errno{
		strings.Repeat("x", 61): api.ErrLong, strings.Repeat("x", 60): api.ErrText,
		trial.Checked(7, "a", "b", "c"): api.OK, trial.Checked(7, "a", "b", "c", "d"): api.ErrArg, trial.Checked(7, "a", "b", "c", "plain -1"): api.ErrText,
	} {
		if got, e := reading().Read(text); e != want || e != api.OK && got != nil {
			t.Errorf("%q %v %v", text, got, e)
		}
	}
}

func TestGiveUp(t *testing.T) {
	r := reading()
	r.Whole = func(lines []texts.Line) []texts.Line {
		texts.GiveUp()
		return lines
	}
	if got, e := r.Read(trial.Checked(7, "a")); e != api.ErrText || got != nil {
		t.Error(got, e)
	}
}

func TestAttempt(t *testing.T) {
	numbers := func(words ...string) func() []int {
		return func() []int { return texts.Integers(words, 2) }
	}
	if got, is := texts.Attempt(numbers("-7", "12")); !is || !slices.Equal(got, trial.List(-7, 12)) {
		t.Error(got, is)
	}
	if got, is := texts.Attempt(numbers("-7", "123")); is || got != nil {
		t.Error(got, is)
	}
}
