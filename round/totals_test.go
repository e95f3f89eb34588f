package round_test

import (
	"slices"
	"testing"

	"ephemerist/api"
	"ephemerist/round"
	"ephemerist/trial"
)

// P4.4, P4.5
func TestTotals(t *testing.T) {
	for i, x := range []struct {
		s                    api.RoundSheet
		guard                int
		total, adds, differs api.Span
		first                int
		proof                []int
	}{
		{sheetA(), 1, span(8, 9), span(8, 9), span(-1, 1), 2, list(12, 25, 45)}, {sheetA(), 2, span(8, 8), span(8, 8), span(0, 0), -1, nil}, {sheetA(), 0, span(7, 10), span(7, 10), span(-1, 1), 1, list(9, 22, 44)},
		// a row alone never fails
		{sheet(10, near, list(8), 25), 0, span(2, 3), span(2, 3), span(0, 0), -1, nil}, {sheetOfText(), 0, span(0, 0), span(0, 0), span(0, 0), -1, nil},
		// nor do whole numbers of units
		{sheet(1, near, list(8, 0), 3, -4, 5), 0, span(-20, 28), span(-20, 28), span(0, 0), -1, nil}, {sheet(10, near, list(0), 30, -40, 50), 0, span(4, 4), span(4, 4), span(0, 0), -1, nil},
		// each rule, with nothing but one truth
		{sheet(10, down, list(0), 14, 25, 16), 0, span(5, 5), span(4, 4), span(-1, -1), 2, list(14, 25, 16)}, {sheet(10, up, list(0), 14, 25, 16), 0, span(6, 6), span(7, 7), span(1, 1), 1, list(14, 25, 16)}, {sheet(10, near, list(0), 14, 25, 16), 0, span(6, 6), span(6, 6), span(0, 0), -1, nil}, {sheet(10, even, list(0), 14, 25, 16), 0, span(6, 6), span(5, 5), span(-1, -1), 1, list(14, 25, 16)},
		{sheet(10, near, list(0), 5, 5), 0, span(1, 1), span(2, 2), span(1, 1), 1, list(5, 5)}, {sheet(10, even, list(0), 5, 5), 0, span(1, 1), span(0, 0), span(-1, -1), 1, list(5, 5)}, {sheet(10, near, list(0), -5, -5), 0, span(-1, -1), span(0, 0), span(1, 1), 1, list(-5, -5)},
		// a total that fails with fewer rows need not fail with more
		{sheet(2, near, list(0), 1, 1, -1), 0, span(1, 1), span(2, 2), span(1, 1), 1, list(1, 1, -1)}, {sheet(10, near, list(0), 5, 5, -10, 6, -6), 0, span(0, 0), span(1, 1), span(1, 1), 1, list(5, 5, -10, 6, -6)}, {sheet(10, near, list(0), 26, 26, 24, 24), 0, span(10, 10), span(10, 10), span(0, 0), 1, nil},
		// the first truth that fails is not the first one
		{sheet(10, down, list(1), 4, 4), 0, span(0, 1), span(0, 0), span(-1, 0), 1, list(5, 5)}, {sheet(10, down, list(1), 1, 8), 0, span(0, 1), span(0, 0), span(-1, 0), 1, list(1, 9)}, {sheet(10, up, list(1), 1, 10), 0, span(1, 2), span(1, 3), span(0, 1), 1, list(1, 9)},
		// as much as can be
		{widest(1000, down, 991, 991, 991, 991, 991), 0, span(4, 4), span(0, 0), span(-4, -4), 1, list(983, 983, 983, 983, 983)}, {widest(1000, up, 9, 9, 9, 9, 9), 4, span(1, 1), span(5, 5), span(4, 4), 1, list(1, 1, 1, 1, 1)}, {widest(1, even, 100000, 100000, 100000, 100000, 100000), 2, span(499960, 500040), span(499960, 500040), span(0, 0), -1, nil},
		{widest(1000, near, 492, 492, 492, 492, 492), 3, span(2, 3), span(0, 5), span(-2, 2), 1, list(484, 484, 484, 484, 484)}, {widest(20, near, 0, 0, 0, 0, 0), 0, span(-2, 2), span(0, 0), span(-2, 2), 1, list(-8, -8, -8, -8, -8)},
		{widest(1000, near, 100, 100, 100, 100, 92), 0, span(0, 1), span(0, 0), span(-1, 0), 4, list(92, 92, 108, 108, 100)}, {widest(1000, near, 100, 100, 100, 100, 60), 0, span(0, 1), span(0, 0), span(-1, 0), 4, list(108, 108, 108, 108, 68)}, {widest(1000, near, 100, 100, 100, 100, 59), 0, span(0, 0), span(0, 0), span(0, 0), -1, nil},
	} {
		if got, e := round.Total(x.s, x.guard); e != api.OK || got != x.total {
			t.Error("Total", i, got, e)
		}
		if got, e := round.Adds(x.s, x.guard); e != api.OK || got != x.adds {
			t.Error("Adds", i, got, e)
		}
		if got, e := round.Differs(x.s, x.guard); e != api.OK || got != x.differs {
			t.Error("Differs", i, got, e)
		}
		if got, e := round.First(x.s, x.guard); e != errnoOf(x.first) || got != max(x.first, 0) {
			t.Error("First", i, got, e)
		}
		if got, e := round.Proof(x.s, x.guard); (e == api.ErrNone) != (x.proof == nil) || e != api.OK && e != api.ErrNone || !slices.Equal(got, x.proof) {
			t.Error("Proof", i, got, e)
		}
	}
}

// P4.4, P4.5, P0.4: all results are those of all truths, and in none before the first one that is returned the total fails.
func TestTotalsOfAllTruths(t *testing.T) {
	truths(t, 600, func(t *testing.T, s api.RoundSheet, guard int, all []truth) {
		if got, e := round.Total(s, guard); e != api.OK || got != rangeOf(all, func(x truth) int { return x.total }) {
			t.Error("Total", s, guard, got, e)
		}
		if got, e := round.Adds(s, guard); e != api.OK || got != rangeOf(all, truth.adds) {
			t.Error("Adds", s, guard, got, e)
		}
		if got, e := round.Differs(s, guard); e != api.OK || got != rangeOf(all, truth.differs) {
			t.Error("Differs", s, guard, got, e)
		}
		first := firstOf(s, guard)
		if got, e := round.First(s, guard); e != errnoOf(first) || got != max(first, 0) {
			t.Error("First", s, guard, got, e)
		}
		proof, want := failureOf(all), api.OK
		if proof == nil {
			want = api.ErrNone
		}
		if got, e := round.Proof(s, guard); e != want || !slices.Equal(got, proof) {
			t.Error("Proof", s, guard, got, e)
		}
	})
}

// P4.6
func TestBehind(t *testing.T) {
	for i, x := range []struct {
		s       api.RoundSheet
		guard   int
		figures []int
		total   int
		want    []api.Span
		e       api.Errno
	}{
		{sheetA(), 1, list(1, 3, 4), 9, spans(14, 14, 27, 27, 44, 44), api.OK}, {sheetA(), 1, list(1, 3, 5), 8, spans(12, 14, 25, 27, 45, 45), api.OK}, {sheetA(), 1, list(1, 3, 4), 7, nil, api.ErrNone}, {sheetA(), 1, list(1, 3, 4), 8, spans(12, 14, 25, 27, 43, 44), api.OK}, {sheetA(), 1, list(1, 3, 5), 9, spans(13, 14, 26, 27, 45, 45), api.OK},
		// a figure that a row never has, and a total that there never is
		{sheetA(), 1, list(1, 2, 4), 8, nil, api.ErrNone}, {sheetA(), 1, list(0, 3, 4), 8, nil, api.ErrNone}, {sheetA(), 1, list(1, 3, 6), 9, nil, api.ErrNone}, {sheetA(), 1, list(1, 3, 5), 10, nil, api.ErrNone}, {sheetA(), 2, list(1, 3, 4), 8, spans(13, 13, 26, 26, 44, 44), api.OK}, {sheetA(), 2, list(1, 3, 4), 9, nil, api.ErrNone}, {sheetA(), 2, list(most, least, most), most, nil, api.ErrNone}, {sheetA(), 2, list(1, 3, 4), least, nil, api.ErrNone},
		// a row alone, of which the total is the figure
		{sheet(10, near, list(8), 25), 0, list(2), 2, spans(17, 24), api.OK}, {sheet(10, near, list(8), 25), 0, list(3), 3, spans(25, 33), api.OK}, {sheet(10, near, list(8), 25), 0, list(3), 2, nil, api.ErrNone},
		// one row has what the other ones leave, at most and at least
		{sheet(10, down, list(4), 5, 5, 5), 0, list(0, 0, 0), 2, spans(2, 9, 2, 9, 2, 9), api.OK}, {sheet(10, down, list(4), 5, 5, 5), 0, list(0, 0, 0), 0, spans(1, 7, 1, 7, 1, 7), api.OK}, {sheet(10, down, list(4), 5, 5, 5), 0, list(0, 0, 0), 1, spans(1, 9, 1, 9, 1, 9), api.OK}, {sheet(10, down, list(4), 5, 5, 5), 0, list(0, 0, 0), 3, nil, api.ErrNone}, {sheet(10, up, list(4), -5, -5), 0, list(0, 0), -1, spans(-9, -1, -9, -1), api.OK}, {sheet(10, up, list(4), -5, -5), 0, list(0, 0), 0, spans(-8, -1, -8, -1), api.OK},
		{widest(1, near, 100000, -100000, 0, 7, 0), 4, list(100008, -99992, 8, 15, 8), 47, spans(100008, 100008, -99992, -99992, 8, 8, 15, 15, 8, 8), api.OK}, {widest(1, near, 100000, -100000, 0, 7, 0), 4, list(100008, -99992, 8, 15, 8), 46, nil, api.ErrNone}, {widest(1000, near, 100, 100, 100, 100, 60), 0, list(0, 0, 0, 0, 0), 1, spans(108, 108, 108, 108, 108, 108, 108, 108, 68, 68), api.OK},
		{sheetA(), 1, list(1, 3), 8, nil, api.ErrArg}, {sheetA(), 1, list(1, 3, 4, 0), 8, nil, api.ErrArg}, {sheetA(), 1, nil, 8, nil, api.ErrArg}, {sheetA(), 1, make([]int, 1000), 8, nil, api.ErrArg}, {sheetOfText(), 0, list(0, 0), 0, nil, api.ErrArg},
	} {
		if got, e := round.Behind(x.s, x.guard, x.figures, x.total); e != x.e || !slices.Equal(got, x.want) {
			t.Error(i, got, e)
		}
	}
}

// P4.6: the bounds are those of all truths with the figures and the total.
func TestBehindOfAllTruths(t *testing.T) {
	d := &dice{trial.Dice{State: 6}}
	truths(t, 300, func(t *testing.T, s api.RoundSheet, guard int, all []truth) {
		for range 20 {
			x := trial.Of(&d.Dice, all)
			figures, total := slices.Clone(x.figures), x.total
			switch d.From(0, 5) {
			case 0:
				figures[d.From(0, len(figures)-1)] += d.From(-1, 1)
			case 1:
				total += d.From(-2, 2)
			case 2:
				total = x.adds()
			}
			want, e := behindOf(all, figures, total), api.OK
			if want == nil {
				e = api.ErrNone
			}
			if got, f := round.Behind(s, guard, figures, total); f != e || !slices.Equal(got, want) {
				t.Fatal(s, guard, figures, total, got, f, want)
			}
		}
	})
}
