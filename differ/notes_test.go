package differ_test

import (
	"slices"
	"testing"

	"ephemerist/api"
	"ephemerist/differ"
)

// P1.7
func TestNotes(t *testing.T) {
	nine := plan(3, 0, span(0, 2), span(0, 2))
	for i, x := range []struct {
		p     api.DifferPlan
		seen  []api.DifferSeen
		many  int
		known []api.Span
		row   int
		left  int
		e     api.Errno
	}{
		{planA(), nil, 6, planA().Starts, 3, 1, api.OK},
		{planA(), notes(2, 1509), 2, planA().Starts, 0, 1, api.OK},
		{planA(), notes(2, 1508), 1, []api.Span{span(1048, 1048), span(250, 250), span(-40, -40)}, 0, 1, api.OK},
		// of several rows the first one
		{nine, nil, 9, nine.Starts, 2, 2, api.OK},
		{nine, notes(2, 2), 2, []api.Span{span(0, 2), span(0, 1)}, 0, 1, api.OK},
		// a row can be in several notes
		{nine, notes(1, 2, 1, 2, 1, 2, 1, 2, 1, 2, 2, 4), 1, []api.Span{span(0, 0), span(2, 2)}, 0, 1, api.OK},
		{nine, notes(1, 2, 1, 3), 0, nil, 0, 0, api.ErrRule},
		{nine, notes(0, 3), 0, nil, 0, 0, api.ErrRule}, {nine, notes(2, 1000000000), 0, nil, 0, 0, api.ErrRule}, {nine, notes(2, -1000000000), 0, nil, 0, 0, api.ErrRule},
		// ErrArg comes before ErrRule
		{nine, notes(0, 3, 3, 2), 0, nil, 0, 0, api.ErrArg}, {nine, notes(-1, 2), 0, nil, 0, 0, api.ErrArg}, {nine, notes(1<<63-1, 2), 0, nil, 0, 0, api.ErrArg}, {nine, notes(-1<<63, 2), 0, nil, 0, 0, api.ErrArg},
		{nine, notes(1, 1000000001), 0, nil, 0, 0, api.ErrArg}, {nine, notes(1, 2, 1, -1000000001), 0, nil, 0, 0, api.ErrArg}, {nine, notes(1, -1<<63), 0, nil, 0, 0, api.ErrArg},
		{nine, slices.Repeat(notes(1, 2), 7), 0, nil, 0, 0, api.ErrArg},
	} {
		many, e := differ.Agree(x.p, x.seen)
		if many != x.many || (e == api.OK) != (x.e != api.ErrArg) || e != api.OK && e != api.ErrArg {
			t.Error(i, many, e)
		}
		if known, e := differ.Known(x.p, x.seen); e != x.e || !slices.Equal(known, x.known) {
			t.Error(i, known, e)
		}
		if row, left, e := differ.Next(x.p, x.seen); e != x.e || row != x.row || left != x.left {
			t.Error(i, row, left, e)
		}
	}
}

// P1.7, P0.1
func TestNotesOfTruths(t *testing.T) {
	plans(t, func(t *testing.T, d *dice, p api.DifferPlan) {
		seen := d.notes(p)
		truths := agreeingOf(p, seen)
		if many, e := differ.Agree(p, seen); e != api.OK || many != len(truths) {
			t.Fatal(p, seen, many, e)
		}
		var known []api.Span
		row, left, f := 0, 0, api.ErrRule
		if len(truths) > 0 {
			f = api.OK
			for start := range p.Starts {
				known = append(known, spanOf(column(truths, start)))
			}
			row, left = nextOf(p, truths)
		}
		if got, e := differ.Known(p, seen); e != f || !slices.Equal(got, known) {
			t.Fatal(p, seen, got, e)
		}
		if r, n, e := differ.Next(p, seen); e != f || r != row || n != left {
			t.Fatal(p, seen, r, n, e)
		}
	})
}

func nextOf(p api.DifferPlan, truths [][]int) (int, int) {
	row, left := 0, len(truths)+1
	tables := tablesOf(p, truths)
	for r := range p.Rows {
		values := column(tables, r)
		most := 0
		for _, v := range values {
			same := 0
			for _, w := range values {
				if v == w {
					same++
				}
			}
			most = max(most, same)
		}
		if most < left {
			row, left = r, most
		}
	}
	return row, left
}

// P1.7: one note more never makes more truths agree, and the row that Next names leaves no more than it says.
func TestOneNoteMore(t *testing.T) {
	plans(t, func(t *testing.T, d *dice, p api.DifferPlan) {
		seen := d.notes(p)
		if len(seen) == api.DifferSeens {
			seen = seen[1:]
		}
		many, _ := differ.Agree(p, seen)
		row, left, _ := differ.Next(p, seen)
		reached := 0
		for _, truth := range truthsOf(p) {
			more := append(slices.Clone(seen), api.DifferSeen{Row: row, Value: tableOf(p, truth)[row]})
			fewer, e := differ.Agree(p, more)
			if e != api.OK || fewer > many || fewer > left {
				t.Fatal(p, more, many, left, fewer, e)
			}
			reached = max(reached, fewer)
		}
		if reached != left {
			t.Fatal(p, seen, row, left, reached)
		}
	})
}

// P1.7: the greatest number of truths that a plan can have.
func TestManyTruths(t *testing.T) {
	p := plan(12, 0, span(0, 6), span(0, 6), span(0, 6), span(0, 6))
	if many, e := differ.Agree(p, nil); e != api.OK || many != 2401 {
		t.Error(many, e)
	}
	if known, e := differ.Known(p, nil); e != api.OK || !slices.Equal(known, p.Starts) {
		t.Error(known, e)
	}
}
