package step_test

import (
	"slices"
	"testing"

	"ephemerist/api"
	"ephemerist/step"
	"ephemerist/trial"
)

// P5.5
func TestKeep(t *testing.T) {
	long := table(down, 0, make([]int, 13)...)
	for i, x := range []struct {
		t    api.StepTable
		step int
		want []int
	}{
		{tableA(), 1, list(0, 1, 2, 3, 4, 5, 6)}, {tableA(), 2, keptK()}, {tableA(), 3, list(0, 3, 6)}, {tableA(), 4, list(0, 4, 6)}, {tableA(), 5, list(0, 5, 6)}, {tableA(), 6, list(0, 6)}, {tableOfText(), 1, list(0, 1)},
		{long, 5, list(0, 5, 10, 12)}, {long, 6, list(0, 6, 12)}, {long, 7, list(0, 7, 12)}, {long, 11, list(0, 11, 12)}, {long, 12, list(0, 12)},
	} {
		if got, e := step.Keep(x.t, x.step); e != api.OK || !slices.Equal(got, x.want) {
			t.Error(i, got, e)
		}
	}
	for _, x := range trial.List(tableA(), tableOfText(), long) {
		for _, by := range list(0, -1, len(x.Values), len(x.Values)+1, most, least) {
			if got, e := step.Keep(x, by); e != api.ErrArg || got != nil {
				t.Error(x, by, got, e)
			}
		}
	}
}

// P5.5: the list of each step has its rows and the last one.
func TestKeepRows(t *testing.T) {
	for rows := 2; rows <= api.StepRows; rows++ {
		for by := 1; by < rows; by++ {
			got, e := step.Keep(table(near, 0, make([]int, rows)...), by)
			for row := range rows {
				if e != api.OK || slices.Contains(got, row) != (row%by == 0 || row == rows-1) {
					t.Fatal(rows, by, got, e)
				}
			}
			if !slices.IsSorted(got) || len(slices.Compact(slices.Clone(got))) != len(got) {
				t.Fatal(rows, by, got)
			}
		}
	}
}

// listed is all that is told of the kept lists of a table.
type listed struct {
	widest int
	fewest []int
	count  int
	must   []int
}

// listedOf returns what the kept lists tell that surely are right.
func listedOf(x api.StepTable) listed {
	sure := sureListsOf(x)
	l := listed{must: all(x)}
	for _, kept := range sure {
		switch {
		case l.count == 0 || len(kept) < len(l.fewest):
			l.fewest, l.count = kept, 1
		case len(kept) == len(l.fewest):
			l.count++
		}
		l.must = slices.DeleteFunc(l.must, func(row int) bool { return !slices.Contains(kept, row) })
	}
	for by := 1; by < len(x.Values); by++ {
		kept, e := step.Keep(x, by)
		if e == api.OK && slices.ContainsFunc(sure, func(other []int) bool { return slices.Equal(other, kept) }) {
			l.widest = by
		}
	}
	return l
}

func sameListed(t *testing.T, x api.StepTable, want listed) {
	t.Helper()
	if got, e := step.Widest(x); e != api.OK || got != want.widest {
		t.Error("Widest", x, got, e, want.widest)
	}
	if got, e := step.Fewest(x); e != api.OK || !slices.Equal(got, want.fewest) {
		t.Error("Fewest", x, got, e, want.fewest)
	}
	if got, e := step.Count(x); e != api.OK || got != want.count {
		t.Error("Count", x, got, e, want.count)
	}
	if got, e := step.Must(x); e != api.OK || !slices.Equal(got, want.must) {
		t.Error("Must", x, got, e, want.must)
	}
}

// P5.5, P5.6
func TestLists(t *testing.T) {
	for _, x := range []struct {
		t    api.StepTable
		want listed
	}{
		{tableA(), listed{2, keptK(), 1, keptK()}}, {tableB(), listed{1, list(0, 2, 3, 4, 5, 6), 1, list(0, 2, 3, 4, 5, 6)}}, {tableOfText(), listed{1, list(0, 1), 1, list(0, 1)}}, {table(up, 0, 5, 4), listed{1, list(0, 1), 1, list(0, 1)}},
		{table(down, 1, 0, 1, 3, 4), listed{3, list(0, 3), 1, list(0, 3)}}, {table(down, 0, 0, 1, 3, 4), listed{2, list(0, 2, 3), 1, list(0, 2, 3)}},
		// the fewest rows are other ones each time, and none of them must be kept
		{table(down, 0, 0, 1, 3, 5, 8), listed{3, list(0, 1, 4), 3, list(0, 4)}},
		// a step that is wider surely is right, one that is less wide is not
		{table(near, 0, 0, 2, 4, 6, 2, -2, -6), listed{3, list(0, 3, 6), 1, list(0, 3, 6)}}, {table(near, 1, 0, 2, 4, 6, 2, -2, -6), listed{3, list(0, 3, 6), 1, list(0, 3, 6)}},
		// without the row 2 alone the list is not right, without the rows 2 and 3 it is
		{table(near, 0, 0, 0, 0, 1, 1), listed{2, list(0, 1, 4), 2, list(0, 4)}},
		// a table that grows evenly, and one of which no row can be left out
		{table(up, 0, 3, 5, 7, 9, 11), listed{4, list(0, 4), 1, list(0, 4)}}, {table(near, 0, 0, 9, 0, 9, 0), listed{1, list(0, 1, 2, 3, 4), 1, list(0, 1, 2, 3, 4)}}, {wide(near, 3, 0, 4, 0, 4, 0, 4), listed{1, list(0, 1, 2), 1, list(0, 1, 2)}}, {wide(near, 4, 0, 4, 0, 4, 0, 4), listed{2, list(0, 2), 1, list(0, 2)}},
		{table(near, 100, make([]int, 13)...), listed{12, list(0, 12), 1, list(0, 12)}}, {wide(near, 0, slices.Repeat(list(0, 4), 13)...), listed{1, list(0, 1, 2, 3, 4, 5, 6, 7, 8, 9, 10, 11, 12), 1, list(0, 1, 2, 3, 4, 5, 6, 7, 8, 9, 10, 11, 12)}},
	} {
		sameListed(t, x.t, x.want)
	}
}

// P5.5, P5.6, P0.5: all results are those of all kept lists and all truths.
func TestAllLists(t *testing.T) {
	tables(t, 400, func(t *testing.T, _ *dice, x api.StepTable) { sameListed(t, x, listedOf(x)) })
}

// P5.5, P5.6: also with more truths than can be written out, whatever step or kept list somebody proposes.
func TestProposedLists(t *testing.T) {
	d := &dice{}
	for range 1000 {
		x := d.widest()
		widest, e := step.Widest(x)
		fewest, f := step.Fewest(x)
		must, g := step.Must(x)
		count, h := step.Count(x)
		if word, _ := step.Word(x, fewest); e != api.OK || f != api.OK || g != api.OK || h != api.OK || word != surely || count < 1 {
			t.Fatal(x, widest, fewest, must, count, e, f, g, h, word)
		}
		for by := 1; by < len(x.Values); by++ {
			kept, _ := step.Keep(x, by)
			if word, _ := step.Word(x, kept); by > widest && word == surely || by == widest && word != surely {
				t.Fatal(x, widest, by, word)
			}
		}
		for range 20 {
			kept := d.kept(x)
			word, _ := step.Word(x, kept)
			lacks := slices.ContainsFunc(must, func(row int) bool { return !slices.Contains(kept, row) })
			if word == surely && (len(kept) < len(fewest) || len(kept) == len(fewest) && slices.Compare(kept, fewest) < 0 || lacks) {
				t.Fatal(x, fewest, must, kept)
			}
		}
		for _, row := range all(x) {
			if word, e := step.Word(x, without(all(x), row)); e == api.OK && word == surely && slices.Contains(must, row) {
				t.Fatal(x, must, row)
			}
		}
	}
}

func without(rows []int, row int) []int {
	return slices.DeleteFunc(rows, func(other int) bool { return other == row })
}

// P5.7
func TestAdd(t *testing.T) {
	for i, x := range []struct {
		t         api.StepTable
		kept      []int
		row, left int
	}{
		{tableB(), keptK(), 3, 1}, {tableB(), list(0, 2, 3, 4, 6), 5, 0}, {tableA(), list(0, 6), 2, 3}, {tableA(), keptK(), 1, 0}, {tableA(), list(0, 1, 2, 4, 6), 3, 0}, {tableA(), list(0, 1, 2, 3, 5, 6), 4, 0},
		// with the row that is wrong kept, the ones next to it are
		{table(near, 0, 0, 0, 9, 0, 0), list(0, 4), 1, 1}, {table(near, 0, 0, 9, 0), list(0, 2), 1, 0}, {table(near, 0, 0, 0, 0, 9, 9, 9), list(0, 5), 2, 2},
	} {
		if row, left, e := step.Add(x.t, x.kept); e != api.OK || row != x.row || left != x.left {
			t.Error(i, row, left, e)
		}
	}
	for _, x := range trial.List(tableA(), tableB(), tableOfText(), wide(near, 0, slices.Repeat(list(0, 4), 13)...)) {
		if row, left, e := step.Add(x, all(x)); e != api.ErrNone || row != 0 || left != 0 {
			t.Error(x, row, left, e)
		}
	}
}

// P5.7: no row that somebody proposes leaves fewer rows that may be wrong.
func TestAddOfAllTruths(t *testing.T) {
	tables(t, 500, func(t *testing.T, d *dice, x api.StepTable) {
		kept, truths := d.kept(x), truthsOf(x)
		want, fewest, f := 0, 0, api.ErrNone
		for _, row := range all(x) {
			if slices.Contains(kept, row) {
				continue
			}
			more := append(slices.Clone(kept), row)
			slices.Sort(more)
			if many := len(knownOf(x, more, truths).doubts); f != api.OK || many < fewest {
				want, fewest, f = row, many, api.OK
			}
		}
		if row, left, e := step.Add(x, kept); e != f || row != want || left != fewest {
			t.Fatal(x, kept, row, left, e, want, fewest)
		}
	})
}
