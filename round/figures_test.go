package round_test

import (
	"slices"
	"testing"

	"ephemerist/api"
	"ephemerist/round"
)

// P4.2
func TestCheck(t *testing.T) {
	for i, s := range []api.RoundSheet{
		sheetA(), sheetOfText(), sheet(1000, even, list(8, 8, 8, 8, 8), 100000, -100000, 100000, -100000, 0), sheet(1, up, list(8), 1), sheet(1000, near, list(0, 0, 0, 0, 0), 0), sheet(7, even, list(8, 5, 5, 1, 0), -1, -1, -1, -1, -1),
	} {
		if e := round.Check(s); e != api.OK {
			t.Error(i, e)
		}
	}
}

// P4.2
func TestFigures(t *testing.T) {
	for i, x := range []struct {
		s       api.RoundSheet
		guard   int
		bounds  []api.Span
		figures []api.Span
		sure    []int
	}{
		{sheetA(), 0, spans(9, 17, 22, 30, 40, 48), spans(1, 2, 2, 3, 4, 5), nil}, {sheetA(), 1, spans(12, 14, 25, 27, 43, 45), spans(1, 1, 3, 3, 4, 5), list(0, 1)}, {sheetA(), 2, spans(13, 13, 26, 26, 44, 44), spans(1, 1, 3, 3, 4, 4), list(0, 1, 2)},
		{sheetOfText(), 0, spans(0, 0), spans(0, 0), list(0)},
		// the same numbers by each rule
		{sheet(10, down, list(1), 24, 30, 31, -30), 0, spans(23, 25, 29, 31, 30, 32, -31, -29), spans(2, 2, 2, 3, 3, 3, -4, -3), list(0, 2)}, {sheet(10, up, list(1), 24, 30, 31, -30), 0, spans(23, 25, 29, 31, 30, 32, -31, -29), spans(3, 3, 3, 4, 3, 4, -3, -2), list(0)},
		{sheet(10, near, list(1), 24, 36, 14, -24), 0, spans(23, 25, 35, 37, 13, 15, -25, -23), spans(2, 3, 4, 4, 1, 2, -2, -2), list(1, 3)}, {sheet(10, even, list(1), 24, 36, 14, -24), 0, spans(23, 25, 35, 37, 13, 15, -25, -23), spans(2, 2, 4, 4, 1, 2, -2, -2), list(0, 1, 3)},
		// more figures than two
		{sheet(1, near, list(8), 5), 0, spans(-3, 13), spans(-3, 13), nil}, {sheet(3, down, list(8, 0), 5), 0, spans(-3, 13), spans(-1, 4), nil}, {sheet(3, down, list(8, 0), 5), 1, spans(5, 5), spans(1, 1), list(0)}, {sheet(2, even, list(3), 0), 0, spans(-3, 3), spans(-2, 2), nil},
		// exact numbers further than a row can be
		{sheet(1, up, list(8), 100000, -100000), 0, spans(99992, 100008, -100008, -99992), spans(99992, 100008, -100008, -99992), nil}, {sheet(1000, up, list(8, 7, 0), 100000, -100000), 1, spans(99993, 100007, -100007, -99993), spans(100, 101, -100, -99), nil}, {sheet(1000, near, list(8), 100000, -100000), 0, spans(99992, 100008, -100008, -99992), spans(100, 100, -100, -100), list(0, 1)},
	} {
		if got, e := round.Bounds(x.s, x.guard); e != api.OK || !slices.Equal(got, x.bounds) {
			t.Error("Bounds", i, got, e)
		}
		if got, e := round.Figures(x.s, x.guard); e != api.OK || !slices.Equal(got, x.figures) {
			t.Error("Figures", i, got, e)
		}
		if got, e := round.Sure(x.s, x.guard); e != api.OK || !slices.Equal(got, x.sure) {
			t.Error("Sure", i, got, e)
		}
	}
}

// P4.2
func TestWord(t *testing.T) {
	for i, x := range []struct {
		guard, row, figure int
		want               api.RoundWord
		e                  api.Errno
	}{
		{1, 1, 3, surely, api.OK}, {0, 0, 2, may, api.OK}, {0, 0, 3, never, api.OK}, {0, 0, 1, may, api.OK}, {0, 0, 0, never, api.OK}, {1, 2, 5, may, api.OK}, {1, 2, 6, never, api.OK}, {2, 2, 4, surely, api.OK}, {2, 2, 5, never, api.OK}, {2, 2, most, never, api.OK}, {0, 2, least, never, api.OK},
		{0, 3, 1, 0, api.ErrArg}, {0, -1, 1, 0, api.ErrArg}, {0, most, 1, 0, api.ErrArg}, {0, least, 1, 0, api.ErrArg}, {3, 0, 1, 0, api.ErrArg}, {-1, 0, 1, 0, api.ErrArg},
	} {
		if got, e := round.Word(sheetA(), x.guard, x.row, x.figure); e != x.e || got != x.want {
			t.Error(i, got, e)
		}
	}
}

// P4.2, P0.1, P0.4: all results are those of all truths, so that each figure of a truth is one that a row does not never have.
func TestFiguresOfAllTruths(t *testing.T) {
	truths(t, 600, func(t *testing.T, s api.RoundSheet, guard int, all []truth) {
		if got, e := round.Bounds(s, guard); e != api.OK || !slices.Equal(got, rangesOf(all, exactOf)) {
			t.Error("Bounds", s, guard, got, e)
		}
		figures, e := round.Figures(s, guard)
		if e != api.OK || !slices.Equal(figures, rangesOf(all, figuresOf)) {
			t.Error("Figures", s, guard, figures, e)
		}
		if got, e := round.Sure(s, guard); e != api.OK || !slices.Equal(got, sureOf(all)) {
			t.Error("Sure", s, guard, got, e)
		}
		for row, of := range figures {
			for figure := of.Low - 2; figure <= of.High+2; figure++ {
				if got, e := round.Word(s, guard, row, figure); e != api.OK || got != wordOf(all, row, figure) {
					t.Error("Word", s, guard, row, figure, got, e)
				}
			}
		}
	})
}

// P4.3
func TestNeed(t *testing.T) {
	const none = -1
	for i, x := range []struct {
		s      api.RoundSheet
		need   []int
		guards int
	}{
		{sheetA(), list(1, 1, 2), 2}, {sheetOfText(), list(0), 0},
		// one row is never sure
		{sheet(10, near, list(4, 1, 0), 13, 25, 44), list(1, 2, 2), 2}, {sheet(10, near, list(4, 1, 1), 13, 25, 44), list(1, none, none), none}, {sheet(10, near, list(4, 1), 13, 27, 48), list(1, 1, 1), 1}, {sheet(10, near, list(4, 1), 13, 27, 50), list(1, 1, 0), 1},
		{sheet(10, down, list(8, 4, 2, 1, 0), 15, 14, 12, 11, 10), list(1, 1, 2, 3, 4), 4}, {sheet(10, up, list(8, 4, 2, 1, 0), 15, 16, 18, 19, 20), list(1, 1, 2, 3, 4), 4}, {sheet(10, down, list(8, 4, 2, 1, 0), 10, 15), list(4, 1), 4}, {sheet(10, down, list(1, 1, 1, 1, 1), 10), list(none), none}, {sheet(1, near, list(1), 10), list(none), none}, {sheet(1, near, list(1, 0, 0), 10), list(1), 1},
	} {
		for row, want := range x.need {
			if got, e := round.Need(x.s, row); got != max(want, 0) || e != errnoOf(want) {
				t.Error(i, row, got, e)
			}
		}
		if got, e := round.Guards(x.s); got != max(x.guards, 0) || e != errnoOf(x.guards) {
			t.Error(i, got, e)
		}
		for _, row := range list(-1, len(x.need), most, least) {
			if got, e := round.Need(x.s, row); got != 0 || e != api.ErrArg {
				t.Error(i, row, got, e)
			}
		}
	}
}

// errnoOf returns ErrNone for a number that is less than 0.
func errnoOf(n int) api.Errno {
	if n < 0 {
		return api.ErrNone
	}
	return api.OK
}

// P4.3: with some guard figures a figure is sure just if they are as many as are returned, or more.
func TestProposedGuards(t *testing.T) {
	sheets(t, 600, func(t *testing.T, _ *dice, s api.RoundSheet) {
		all, e := round.Guards(s)
		if e != api.OK && e != api.ErrNone {
			t.Fatal(s, all, e)
		}
		for guard := range s.Errs {
			sure := sureOf(truthsOf(s, guard))
			for row := range s.Rows {
				need, f := round.Need(s, row)
				if f != api.OK && f != api.ErrNone || slices.Contains(sure, row) != (f == api.OK && guard >= need) {
					t.Fatal("Need", s, guard, row, need, f)
				}
			}
			if (len(sure) == len(s.Rows)) != (e == api.OK && guard >= all) {
				t.Fatal("Guards", s, guard, all, e)
			}
		}
	})
}
