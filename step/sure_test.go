package step_test

import (
	"slices"
	"testing"

	"ephemerist/api"
	"ephemerist/step"
)

// P5.3, P5.4
func TestSure(t *testing.T) {
	// the row 2 must be 0 for the row 1, and 4 for the row 3
	torn := wide(down, 0, 0, 0, 0, 0, 0, 4, 4, 4, 4, 4)
	for _, x := range []struct {
		t    api.StepTable
		kept []int
		want known
	}{
		{tableA(), keptK(), known{surely, nil, nil, 10}}, {tableB(), keptK(), known{may, list(3, 5), list(0, 10, 40, 90, 161, 250, 360), 11}}, {tableA(), list(0, 6), known{never, list(1, 2, 3, 4, 5), truthT(), 90}}, {tableA(), list(0, 1, 2, 3, 4, 5, 6), known{surely, nil, nil, 0}}, {tableA(), list(0, 2, 3, 4, 6), known{surely, nil, nil, 10}}, {tableA(), list(0, 1, 3, 4, 6), known{may, list(2), list(0, 10, 40, 91, 160, 250, 360), 11}},
		// a row that is kept is right, wherever it is
		{wide(near, 0, 0, 4, 0, 4), list(0, 1), known{surely, nil, nil, 0}}, {wide(near, 0, 0, 4, 7, 7, 0, 4, 1, 4), list(0, 1, 2, 3), known{surely, nil, nil, 0}}, {tableOfText(), list(0, 1), known{surely, nil, nil, 0}},
		// a row that is not kept, between ends that are known
		{wide(down, 1, 2, 2, 0, 4, 2, 2), list(0, 2), known{may, list(1), list(2, 0, 2), 2}}, {wide(down, 2, 2, 2, 0, 4, 2, 2), list(0, 2), known{surely, nil, nil, 2}}, {wide(down, 0, 2, 2, 3, 4, 2, 2), list(0, 2), known{never, list(1), list(2, 3, 2), 2}}, {wide(down, 1, 2, 2, 3, 4, 2, 2), list(0, 2), known{may, list(1), list(2, 4, 2), 2}},
		// of what is too much and what is too little, the farther one
		{wide(near, 0, 0, 4, 1, 1, 0, 0), list(0, 2), known{may, list(1), list(0, 1, 0), 1}}, {wide(near, 1, 0, 4, 1, 1, 0, 2), list(0, 2), known{may, list(1), list(3, 1, 2), 2}}, {wide(up, 0, 0, 1, 1, 1, 0, 0), list(0, 2), known{may, list(1), list(0, 1, 0), 1}}, {wide(down, 0, 0, 1, 0, 0, 0, 1), list(0, 2), known{may, list(1), list(1, 0, 1), 1}},
		{torn, list(0, 2, 4), known{never, list(1, 3), list(0, 0, 0, 4, 4), 2}}, {withOff(torn, 1), list(0, 2, 4), known{may, list(1, 3), list(0, 0, 0, 4, 4), 2}}, {withOff(torn, 2), list(0, 2, 4), known{surely, nil, nil, 2}}, {torn, list(0, 1, 2, 4), known{may, list(3), list(0, 0, 0, 4, 4), 2}}, {torn, list(0, 1, 3, 4), known{may, list(2), list(0, 0, 0, 4, 4), 2}},
		{table(down, 1, 0, 1, 3, 4), list(0, 3), known{surely, nil, nil, 1}}, {table(down, 0, 0, 1, 3, 4), list(0, 3), known{never, list(2), list(0, 1, 3, 4), 1}},
		// farther than an Off can be
		{table(down, 100, 0, 100, 0), list(0, 2), known{surely, nil, nil, 100}}, {table(down, 100, 0, -101, 0), list(0, 2), known{never, list(1), list(0, -101, 0), 101}}, {table(near, 100, 9999, -9999, 9999), list(0, 2), known{never, list(1), list(9999, -9999, 9999), 19998}}, {wide(near, 100, -9999, -9995, 9995, 9999, -9999, -9995), list(0, 2), known{never, list(1), list(-9999, 9995, -9999), 19998}},
	} {
		sameKnown(t, x.t, x.kept, x.want)
	}
}

func sameKnown(t *testing.T, x api.StepTable, kept []int, want known) {
	t.Helper()
	if got, e := step.Word(x, kept); e != api.OK || got != want.word {
		t.Error("Word", x, kept, got, e, want.word)
	}
	if got, e := step.Doubts(x, kept); e != api.OK || !slices.Equal(got, want.doubts) {
		t.Error("Doubts", x, kept, got, e, want.doubts)
	}
	if got, e := step.Proof(x, kept); (e == api.ErrNone) != (want.proof == nil) || e != api.OK && e != api.ErrNone || !slices.Equal(got, want.proof) {
		t.Error("Proof", x, kept, got, e, want.proof)
	}
	if got, e := step.Least(x, kept); e != api.OK || got != want.least {
		t.Error("Least", x, kept, got, e, want.least)
	}
}

// P5.3, P5.4: all results are those of all truths, so that the kept list is right in each truth before the one that is returned.
func TestSureOfAllTruths(t *testing.T) {
	tables(t, 1500, func(t *testing.T, d *dice, x api.StepTable) {
		truths := truthsOf(x)
		for range 4 {
			kept := d.kept(x)
			sameKnown(t, x, kept, knownOf(x, kept, truths))
		}
	})
}

// P5.3, P5.4: also with more truths than can be written out, whatever truth somebody proposes.
func TestProposedTruths(t *testing.T) {
	d := &dice{}
	for range 3000 {
		x := d.widest()
		kept := d.kept(x)
		word, _ := step.Word(x, kept)
		doubts, _ := step.Doubts(x, kept)
		proof, e := step.Proof(x, kept)
		off, _ := step.Least(x, kept)
		if (e == api.OK) != (word != surely) || (e == api.OK) != (len(doubts) > 0) || (e == api.OK) != (off > x.Off) || e == api.OK && isRightIn(x, kept, proof) {
			t.Fatal(x, kept, word, doubts, proof, e, off)
		}
		for range 20 {
			truth := d.truth(x)
			is, f := step.Right(x, kept, truth)
			if f != api.OK || word == surely && !is || word == never && is || !is && slices.Compare(truth, proof) < 0 {
				t.Fatal(x, kept, word, truth, is, f, proof)
			}
			for row, differs := range offsOf(x, kept, truth) {
				if differs > off || differs > x.Off && !slices.Contains(doubts, row) {
					t.Fatal(x, kept, truth, row, differs, off, doubts)
				}
			}
		}
	}
}

// P5.3: a kept list that may be right is right in some truth, which is looked for in all truths of the rows that are kept.
func TestRightTruths(t *testing.T) {
	d := &dice{}
	for range 2000 {
		x := d.tableWith(d.From(4, api.StepRows), 1<<40)
		kept := d.kept(x)
		if len(kept) > 4 {
			continue
		}
		ends := withValues(x)
		for _, row := range kept {
			ends.Values = append(ends.Values, x.Values[row])
		}
		is := slices.ContainsFunc(truthsOf(ends), func(numbers []int) bool { return canBeRight(x, kept, numbers) })
		if word, e := step.Word(x, kept); e != api.OK || (word != never) != is {
			t.Fatal(x, kept, word, e, is)
		}
	}
}

// canBeRight tells whether all rows can be right if the kept ones have some numbers.
func canBeRight(t api.StepTable, kept, numbers []int) bool {
	truth := make([]int, len(t.Values))
	for i, row := range kept {
		truth[row] = numbers[i]
	}
	for row, figure := range figuresOf(t, kept, truth) {
		if v := t.Values[row]; !slices.Contains(kept, row) && (figure > v.High+t.Off || figure < v.Low-t.Off) {
			return false
		}
	}
	return true
}
