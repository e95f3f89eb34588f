package step_test

import (
	"slices"
	"testing"

	"ephemerist/api"
	"ephemerist/step"
	"ephemerist/trial"
)

// P5.1
func TestCheck(t *testing.T) {
	for i, x := range trial.List(
		tableA(), tableB(), tableOfText(), table(even, 100, slices.Repeat(list(-9999), 13)...), table(up, 0, 9999, -9999), wide(up, 0, 9995, 9999, -9999, -9995), wide(near, 1, 0, 4, -4, 0, -2, 2), table(down, 99, 0, 0),
	) {
		if e := step.Check(x); e != api.OK {
			t.Error(i, e)
		}
	}
}

// P5.1
func TestFigures(t *testing.T) {
	half := func(rule api.RoundRule, off int) api.StepTable { return table(rule, off, 50, 50, 51) }
	for i, x := range []struct {
		t           api.StepTable
		kept, truth []int
		want        []int
		right       bool
	}{
		{tableA(), keptK(), truthT(), list(0, 20, 40, 100, 160, 260, 360), true}, {tableA(), list(0, 6), truthT(), list(0, 60, 120, 180, 240, 300, 360), false}, {tableA(), list(0, 1, 2, 3, 4, 5, 6), truthT(), truthT(), true}, {tableA(), list(0, 3, 6), truthT(), list(0, 30, 60, 90, 180, 270, 360), false},
		{tableA(), keptK(), list(0, 10, 40, 91, 160, 250, 360), list(0, 20, 40, 100, 160, 260, 360), true}, {tableA(), list(0, 2, 3, 4, 6), list(0, 10, 40, 91, 160, 250, 360), list(0, 20, 40, 91, 160, 260, 360), true}, {tableB(), keptK(), list(0, 10, 40, 91, 161, 250, 360), list(0, 20, 40, 101, 161, 261, 360), false}, {tableB(), keptK(), truthT(), list(0, 20, 40, 100, 160, 260, 360), true},
		// halves, by each rule, and how far they are off
		{half(down, 0), list(0, 2), list(50, 50, 51), list(50, 50, 51), true}, {half(up, 0), list(0, 2), list(50, 50, 51), list(50, 51, 51), false}, {half(up, 1), list(0, 2), list(50, 50, 51), list(50, 51, 51), true}, {half(near, 0), list(0, 2), list(50, 50, 51), list(50, 51, 51), false}, {half(even, 0), list(0, 2), list(50, 50, 51), list(50, 50, 51), true}, {table(even, 0, 51, 51, 52), list(0, 2), list(51, 51, 52), list(51, 52, 52), false},
		// less than 0
		{table(down, 0, -1, 0, 0), list(0, 2), list(-1, 0, 0), list(-1, -1, 0), false}, {table(up, 0, -1, 0, 0), list(0, 2), list(-1, 0, 0), list(-1, 0, 0), true}, {table(near, 0, -1, 0, 0), list(0, 2), list(-1, 0, 0), list(-1, 0, 0), true}, {table(even, 0, -1, 0, 0), list(0, 2), list(-1, 0, 0), list(-1, 0, 0), true}, {table(near, 0, 0, -5, -7, -10), list(0, 3), list(0, -5, -7, -10), list(0, -3, -7, -10), false},
		// as far apart as can be
		{table(down, 0, -9999, 0, 9999), list(0, 2), list(-9999, 0, 9999), list(-9999, 0, 9999), true}, {table(near, 100, 9999, -9999, 9999, 9999), list(0, 1, 3), list(9999, -9999, 9999, 9999), list(9999, -9999, 0, 9999), false},
		{table(near, 100, 9999, 0, 0, 0, 0, 0, 0, 0, 0, 0, 0, 0, -9999), list(0, 12), list(9999, 0, 0, 0, 0, 0, 0, 0, 0, 0, 0, 0, -9999), list(9999, 8333, 6666, 5000, 3333, 1667, 0, -1666, -3333, -4999, -6666, -8332, -9999), false},
		// off by the Off, and by one more, to both sides
		{table(down, 3, 0, 3, 0), list(0, 2), list(0, 3, 0), list(0, 0, 0), true}, {table(down, 3, 0, -3, 0), list(0, 2), list(0, -3, 0), list(0, 0, 0), true}, {table(down, 3, 0, 4, 0), list(0, 2), list(0, 4, 0), list(0, 0, 0), false}, {table(down, 3, 0, -4, 0), list(0, 2), list(0, -4, 0), list(0, 0, 0), false},
		{tableOfText(), list(0, 1), list(6, 7), list(6, 7), true},
	} {
		if got, e := step.Figures(x.t, x.kept, x.truth); e != api.OK || !slices.Equal(got, x.want) {
			t.Error("Figures", i, got, e)
		}
		if is, e := step.Right(x.t, x.kept, x.truth); e != api.OK || is != x.right {
			t.Error("Right", i, is, e)
		}
	}
}

// P5.1: a figure is rounded as layer 4 rounds.
func TestFiguresOfTruths(t *testing.T) {
	d := &dice{}
	for range 5000 {
		x := d.widest()
		kept, truth := d.kept(x), d.truth(x)
		if got, e := step.Figures(x, kept, truth); e != api.OK || !slices.Equal(got, figuresOf(x, kept, truth)) {
			t.Fatal("Figures", x, kept, truth, got, e)
		}
		if is, e := step.Right(x, kept, truth); e != api.OK || is != isRightIn(x, kept, truth) {
			t.Fatal("Right", x, kept, truth, is, e)
		}
	}
}

// P5.2
func TestParts(t *testing.T) {
	for i, x := range []struct {
		difference, parts int
		rule              api.RoundRule
		want              []int
	}{
		{10, 4, near, list(0, 3, 5, 8, 10)}, {10, 4, down, list(0, 2, 5, 7, 10)}, {10, 4, up, list(0, 3, 5, 8, 10)}, {10, 4, even, list(0, 2, 5, 8, 10)}, {-10, 4, near, list(0, -2, -5, -7, -10)}, {-10, 4, down, list(0, -3, -5, -8, -10)}, {-10, 4, up, list(0, -2, -5, -7, -10)}, {-10, 4, even, list(0, -2, -5, -8, -10)},
		{7, 1, down, list(0, 7)}, {0, 3, up, list(0, 0, 0, 0)}, {1, 13, down, list(0, 0, 0, 0, 0, 0, 0, 0, 0, 0, 0, 0, 0, 1)}, {1, 13, up, list(0, 1, 1, 1, 1, 1, 1, 1, 1, 1, 1, 1, 1, 1)}, {1, 13, near, list(0, 0, 0, 0, 0, 0, 0, 1, 1, 1, 1, 1, 1, 1)},
		{19998, 2, up, list(0, 9999, 19998)}, {-19998, 1, even, list(0, -19998)}, {19998, 13, down, list(0, 1538, 3076, 4614, 6153, 7691, 9229, 10768, 12306, 13844, 15383, 16921, 18459, 19998)},
	} {
		if got, e := step.Parts(x.difference, x.parts, x.rule); e != api.OK || !slices.Equal(got, x.want) {
			t.Error(i, got, e)
		}
	}
	for difference := -30; difference <= 30; difference++ {
		for parts := 1; parts <= api.StepRows; parts++ {
			for _, rule := range trial.List(down, up, near, even) {
				got, e := step.Parts(difference, parts, rule)
				if e != api.OK || len(got) != parts+1 {
					t.Fatal(difference, parts, rule, got, e)
				}
				for n, part := range got {
					if part != trial.Units(difference*n, parts, rule) {
						t.Fatal(difference, parts, rule, n, part)
					}
				}
			}
		}
	}
}

// P5.2
func TestPartsErrors(t *testing.T) {
	for i, x := range []struct {
		difference, parts int
		rule              api.RoundRule
	}{
		{19999, 2, up}, {-19999, 2, up}, {most, 2, up}, {least, 2, up}, {10, 0, up}, {10, -1, up}, {10, 14, up}, {10, most, up}, {10, least, up}, {10, 4, 0}, {10, 4, -1}, {10, 4, 5}, {10, 4, most}, {10, 4, least}, {most, most, most},
	} {
		if got, e := step.Parts(x.difference, x.parts, x.rule); e != api.ErrArg || got != nil {
			t.Error(i, got, e)
		}
	}
}

// P5.2: rounded down, up or near, the figure of a row between two kept ones is the number of the one before and its proportional part together.
func TestFiguresOfParts(t *testing.T) {
	d := &dice{}
	for range 5000 {
		x := d.widest()
		if x.Rule == even {
			continue
		}
		kept, truth := d.kept(x), d.truth(x)
		figures, _ := step.Figures(x, kept, truth)
		for i, after := range kept[1:] {
			before := kept[i]
			parts, e := step.Parts(truth[after]-truth[before], after-before, x.Rule)
			for n, part := range parts {
				if e != api.OK || figures[before+n] != truth[before]+part {
					t.Fatal(x, kept, truth, figures, before, parts, e)
				}
			}
		}
	}
}
