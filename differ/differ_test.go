package differ_test

import (
	"slices"
	"testing"

	"ephemerist/api"
	"ephemerist/differ"
)

// P1.1
func TestCheck(t *testing.T) {
	for i, p := range []api.DifferPlan{
		planA(), planB(), plan(1, 0, span(0, 0)), plan(12, 3, span(0, 6), span(0, 6), span(0, 6), span(0, 6)),
		plan(12, 0, span(-99999, -99993)), plan(1, 0, span(99993, 99999)), plan(1, 0, span(-3, 3), span(-99999, -99999), span(99999, 99999)),
	} {
		if e := differ.Check(p); e != api.OK {
			t.Error(i, e)
		}
	}
}

// P1.1
func TestTable(t *testing.T) {
	for i, x := range []struct {
		p     api.DifferPlan
		truth []int
		want  []int
		e     api.Errno
	}{
		{planA(), truthT(), list(1048, 1298, 1508, 1678, 1808), api.OK},
		{planA(), list(1047, 251, -40), list(1047, 1298, 1509, 1680, 1811), api.OK},
		{plan(6, 0, span(0, 0), span(1, 1), span(6, 6), span(6, 6)), list(0, 1, 6, 6), list(0, 1, 8, 27, 64, 125), api.OK},
		{plan(1, 0, span(5, 5), span(9, 9)), list(5, 9), list(5), api.OK},
		{plan(3, 0, span(-7, -5)), list(-6), list(-6, -6, -6), api.OK},
		{planA(), list(1046, 250, -40), nil, api.ErrArg},
		{planA(), list(1050, 250, -40), nil, api.ErrArg},
		{planA(), list(1048, 250, -39), nil, api.ErrArg},
		{planA(), list(1048, 250), nil, api.ErrArg},
		{planA(), list(1048, 250, -40, 0), nil, api.ErrArg},
		{planA(), nil, nil, api.ErrArg},
	} {
		if got, e := differ.Table(x.p, x.truth); e != x.e || !slices.Equal(got, x.want) {
			t.Error(i, got, e)
		}
	}
}

// P1.1
func TestState(t *testing.T) {
	for i, x := range []struct {
		truth []int
		row   int
		want  []int
		e     api.Errno
	}{
		{truthT(), 0, truthT(), api.OK}, {truthT(), 1, list(1298, 210, -40), api.OK}, {truthT(), 2, list(1508, 170, -40), api.OK}, {truthT(), 4, list(1808, 90, -40), api.OK},
		{truthT(), 5, nil, api.ErrArg}, {truthT(), -1, nil, api.ErrArg}, {truthT(), -1 << 63, nil, api.ErrArg}, {truthT(), 1<<63 - 1, nil, api.ErrArg},
		{list(1048, 252, -40), 0, nil, api.ErrArg}, {nil, 0, nil, api.ErrArg}, {list(1048, 250, -40, 0), 0, nil, api.ErrArg},
	} {
		if got, e := differ.State(planA(), x.truth, x.row); e != x.e || !slices.Equal(got, x.want) {
			t.Error(i, got, e)
		}
	}
}

// P1.1: each row is made from the one before it by additions alone.
func TestRowsByAdditions(t *testing.T) {
	plans(t, func(t *testing.T, d *dice, p api.DifferPlan) {
		truth := d.truth(p)
		values, e := differ.Table(p, truth)
		if e != api.OK || !slices.Equal(values, tableOf(p, truth)) {
			t.Fatal(p, truth, values, e)
		}
		before, _ := differ.State(p, truth, 0)
		if !slices.Equal(before, truth) {
			t.Fatal(p, truth, before)
		}
		for row := 1; row < p.Rows; row++ {
			state, e := differ.State(p, truth, row)
			if e != api.OK || state[0] != values[row] {
				t.Fatal(p, truth, row, state, e)
			}
			for k := range state {
				want := before[k]
				if k+1 < len(before) {
					want += before[k+1]
				}
				if state[k] != want {
					t.Fatal(p, truth, row, before, state)
				}
			}
			before = state
		}
	})
}

// P1.2, P0.1
func TestRows(t *testing.T) {
	want := []api.Span{span(1047, 1049), span(1297, 1300), span(1507, 1511), span(1677, 1682), span(1807, 1813)}
	if got, e := differ.Rows(planA()); e != api.OK || !slices.Equal(got, want) {
		t.Error(got, e)
	}
	plans(t, func(t *testing.T, d *dice, p api.DifferPlan) {
		got, e := differ.Rows(p)
		if e != api.OK || len(got) != p.Rows {
			t.Fatal(p, got, e)
		}
		tables := tablesOf(p, truthsOf(p))
		for row := range p.Rows {
			if got[row] != spanOf(column(tables, row)) {
				t.Fatal(p, row, got[row])
			}
		}
	})
}

// P1.3
func TestFigures(t *testing.T) {
	one := func(guard, low, high int) api.DifferPlan { return plan(1, guard, span(low, high)) }
	for i, x := range []struct {
		p       api.DifferPlan
		printed []api.Span
		sure    []int
		doubt   int
		e       api.Errno
	}{
		{planA(), []api.Span{span(10, 10), span(13, 13), span(15, 15), span(17, 17), span(18, 18)}, list(0, 1, 2, 3, 4), 0, api.ErrNone},
		{planB(), []api.Span{span(10, 11), span(13, 13), span(15, 15), span(17, 17), span(18, 18)}, list(1, 2, 3, 4), 0, api.OK},
		{plan(4, 1, span(0, 0), span(1, 2)), []api.Span{span(0, 0), span(0, 0), span(0, 0), span(0, 1)}, list(0, 1, 2), 3, api.OK},
		// just in the middle, and below 0
		{one(0, -1, 1), []api.Span{span(-1, 1)}, nil, 0, api.OK},
		{one(1, 4, 5), []api.Span{span(0, 1)}, nil, 0, api.OK},
		{one(1, -5, 4), nil, nil, 0, api.ErrArg},
		{one(1, -5, 0), []api.Span{span(0, 0)}, list(0), 0, api.ErrNone},
		{one(1, -6, -5), []api.Span{span(-1, 0)}, nil, 0, api.OK},
		{one(1, -15, -10), []api.Span{span(-1, -1)}, list(0), 0, api.ErrNone},
		{one(2, 49, 50), []api.Span{span(0, 1)}, nil, 0, api.OK},
		{one(2, -151, -150), []api.Span{span(-2, -1)}, nil, 0, api.OK},
		{one(3, 499, 500), []api.Span{span(0, 1)}, nil, 0, api.OK},
		{one(3, -501, -500), []api.Span{span(-1, 0)}, nil, 0, api.OK},
		{one(3, -99999, -99993), []api.Span{span(-100, -100)}, list(0), 0, api.ErrNone},
	} {
		printed, e := differ.Printed(x.p)
		sure, f := differ.Sure(x.p)
		doubt, g := differ.Doubt(x.p)
		if !slices.Equal(printed, x.printed) || !slices.Equal(sure, x.sure) || doubt != x.doubt || g != x.e || e != f || (e == api.OK) != (x.e != api.ErrArg) {
			t.Error(i, printed, e, sure, f, doubt, g)
		}
	}
}

// P1.3, P0.1: in any two truths a row that is sure is printed the same.
func TestFiguresOfTruths(t *testing.T) {
	plans(t, func(t *testing.T, d *dice, p api.DifferPlan) {
		printed, e := differ.Printed(p)
		if e != api.OK || len(printed) != p.Rows {
			t.Fatal(p, printed, e)
		}
		var sure []int
		doubt, f := 0, api.ErrNone
		tables := tablesOf(p, truthsOf(p))
		for row := range p.Rows {
			var figures []int
			for _, value := range column(tables, row) {
				figures = append(figures, figureOf(value, p.Guard))
			}
			if printed[row] != spanOf(figures) {
				t.Fatal(p, row, printed[row])
			}
			if spanOf(figures).Low == spanOf(figures).High {
				sure = append(sure, row)
			} else if f == api.ErrNone {
				doubt, f = row, api.OK
			}
		}
		if got, e := differ.Sure(p); e != api.OK || !slices.Equal(got, sure) {
			t.Fatal(p, got, e)
		}
		if got, e := differ.Doubt(p); e != f || got != doubt {
			t.Fatal(p, got, e)
		}
	})
}

// P1.4
func TestWidest(t *testing.T) {
	for i, x := range []struct {
		p     api.DifferPlan
		start int
		want  int
		e     api.Errno
	}{
		{planA(), 0, 1049, api.OK}, {planA(), 1, 256, api.OK}, {planA(), 2, -34, api.OK},
		{planB(), 0, 1049, api.OK}, {planB(), 1, 0, api.ErrNone},
		{plan(1, 2, span(0, 0)), 0, 6, api.OK}, {plan(1, 0, span(-3, 2)), 0, -3, api.OK}, {plan(1, 1, span(0, 0)), 0, 4, api.OK},
		{plan(1, 3, span(99997, 99997)), 0, 99999, api.OK}, {plan(1, 0, span(99999, 99999)), 0, 99999, api.OK},
		// a row that the start does not change is not sure
		{plan(1, 0, span(0, 1), span(5, 5)), 1, 0, api.ErrNone},
		{planA(), 3, 0, api.ErrArg}, {planA(), -1, 0, api.ErrArg}, {planA(), 1<<63 - 1, 0, api.ErrArg}, {planB(), 3, 0, api.ErrArg},
	} {
		if got, e := differ.Widest(x.p, x.start); e != x.e || got != x.want {
			t.Error(i, got, e)
		}
	}
}

// P1.4: with a start as wide as somebody proposes all rows are sure just if it is no wider than what is returned.
func TestWidestOfAll(t *testing.T) {
	plans(t, func(t *testing.T, d *dice, p api.DifferPlan) {
		for start, s := range p.Starts {
			got, e := differ.Widest(p, start)
			if e != api.OK && (e != api.ErrNone || got != 0) {
				t.Fatal(p, start, got, e)
			}
			for high := s.Low; high <= s.Low+api.DifferWide+1; high++ {
				q := plan(p.Rows, p.Guard, slices.Clone(p.Starts)...)
				q.Starts[start].High = high
				_, f := differ.Doubt(q)
				if (f == api.ErrNone) != (e == api.OK && high <= got) {
					t.Fatal(p, start, got, e, high, f)
				}
			}
		}
	})
}

// P1.4
func TestBlame(t *testing.T) {
	for i, x := range []struct {
		p    api.DifferPlan
		row  int
		want int
		e    api.Errno
	}{
		{planA(), 0, 0, api.OK}, {planA(), 2, 0, api.OK}, {planA(), 3, 1, api.OK}, {planA(), 4, 1, api.OK},
		{plan(3, 0, span(0, 0), span(1, 2), span(0, 2)), 0, 0, api.ErrNone}, {plan(3, 0, span(0, 0), span(1, 2), span(0, 2)), 1, 1, api.OK},
		// 2 times 1 and 1 times 2: the first of both
		{plan(3, 0, span(0, 0), span(1, 2), span(0, 2)), 2, 1, api.OK},
		{plan(4, 0, span(0, 0), span(1, 2), span(0, 2)), 3, 2, api.OK},
		{plan(2, 0, span(4, 4)), 1, 0, api.ErrNone},
		{planA(), 5, 0, api.ErrArg}, {planA(), -1, 0, api.ErrArg}, {planA(), -1 << 63, 0, api.ErrArg},
	} {
		if got, e := differ.Blame(x.p, x.row); e != x.e || got != x.want {
			t.Error(i, got, e)
		}
	}
	plans(t, func(t *testing.T, d *dice, p api.DifferPlan) {
		for row := range p.Rows {
			want, most, f := 0, 0, api.ErrNone
			for start, s := range p.Starts {
				if width := (s.High - s.Low) * binomial(row, start); width > most {
					want, most, f = start, width, api.OK
				}
			}
			if got, e := differ.Blame(p, row); e != f || got != want {
				t.Fatal(p, row, got, e)
			}
		}
	})
}

// P1.5
func TestClimb(t *testing.T) {
	for i, x := range []struct {
		state []int
		rows  int
		want  []int
		e     api.Errno
	}{
		{list(1808, 90, -40), 5, list(1048, 1298, 1508, 1678, 1808), api.OK}, {list(7), 3, list(7, 7, 7), api.OK}, {list(7, 9), 1, list(7), api.OK},
		{list(125, 91, 36, 6), 8, list(-8, -1, 0, 1, 8, 27, 64, 125), api.OK},
		{list(-1000000000, 1000000000), 2, list(-2000000000, -1000000000), api.OK},
		{nil, 3, nil, api.ErrArg}, {list(), 3, nil, api.ErrArg}, {list(1, 1, 1, 1, 1), 3, nil, api.ErrArg},
		{list(1000000001), 3, nil, api.ErrArg}, {list(1, 1, 1, -1000000001), 3, nil, api.ErrArg}, {list(-1 << 63), 3, nil, api.ErrArg},
		{list(7), 0, nil, api.ErrArg}, {list(7), 13, nil, api.ErrArg}, {list(7), -1, nil, api.ErrArg}, {list(7), 1<<63 - 1, nil, api.ErrArg}, {list(7), -1 << 63, nil, api.ErrArg},
	} {
		if got, e := differ.Climb(x.state, x.rows); e != x.e || !slices.Equal(got, x.want) {
			t.Error(i, got, e)
		}
	}
	// the farthest numbers: the row 0 is 1 + 11 + 66 + 286 times the farthest one
	far := list(1000000000, -1000000000, 1000000000, -1000000000)
	if got, e := differ.Climb(far, 12); e != api.OK || len(got) != 12 || got[0] != 364000000000 {
		t.Error(got, e)
	}
}

// P1.5: a table that is made from its last row upward is the one that was made downward.
func TestClimbBack(t *testing.T) {
	plans(t, func(t *testing.T, d *dice, p api.DifferPlan) {
		truth := d.truth(p)
		downward, _ := differ.Table(p, truth)
		last, _ := differ.State(p, truth, p.Rows-1)
		if upward, e := differ.Climb(last, p.Rows); e != api.OK || !slices.Equal(upward, downward) {
			t.Fatal(p, truth, upward, downward, e)
		}
	})
}

// P1.6
func TestCut(t *testing.T) {
	for i, x := range []struct {
		truth []int
		size  int
		want  [][]int
		e     api.Errno
	}{
		{truthT(), 2, [][]int{truthT(), {1508, 170, -40}, {1808, 90, -40}}, api.OK}, {truthT(), 4, [][]int{truthT(), {1808, 90, -40}}, api.OK}, {truthT(), 5, [][]int{truthT()}, api.OK},
		{truthT(), 1, [][]int{truthT(), {1298, 210, -40}, {1508, 170, -40}, {1678, 130, -40}, {1808, 90, -40}}, api.OK},
		{truthT(), 0, nil, api.ErrArg}, {truthT(), 6, nil, api.ErrArg}, {truthT(), -1, nil, api.ErrArg}, {truthT(), 1<<63 - 1, nil, api.ErrArg}, {truthT(), -1 << 63, nil, api.ErrArg},
		{list(1048), 2, nil, api.ErrArg}, {list(1048, 250, -41), 2, nil, api.ErrArg}, {nil, 2, nil, api.ErrArg},
	} {
		if got, e := differ.Cut(planA(), x.truth, x.size); e != x.e || !sameLists(got, x.want) {
			t.Error(i, got, e)
		}
	}
}

// P1.6
func TestJoins(t *testing.T) {
	for i, x := range []struct {
		firsts [][]int
		size   int
		want   []int
		e      api.Errno
	}{
		{[][]int{truthT(), {1508, 170, -40}, {1808, 90, -40}}, 2, nil, api.OK},
		{[][]int{truthT(), {1508, 171, -40}, {1808, 90, -40}}, 2, list(1, 2), api.OK},
		{[][]int{truthT(), {1508, 171, -40}, {1810, 91, -40}}, 2, list(1), api.OK},
		{[][]int{truthT(), {1508, 170, -40}, {1808, 90, -41}}, 2, list(2), api.OK},
		// a first row need not be one of a truth, and the only sheet is never asked for
		{[][]int{{1000000000, -1000000000, 0}}, 5, nil, api.OK},
		{[][]int{{1000000000, 1000000000, 1000000000}, {1000000000, 0, 0}}, 4, list(1), api.OK},
		{[][]int{truthT(), {1508, 170, -40}}, 2, nil, api.ErrArg}, {[][]int{truthT(), {1508, 170, -40}, {1808, 90, -40}, {1898, 50, -40}}, 2, nil, api.ErrArg},
		{[][]int{truthT(), {1508, 170}, {1808, 90, -40}}, 2, nil, api.ErrArg}, {[][]int{truthT(), {1508, 170, -40, 0}, {1808, 90, -40}}, 2, nil, api.ErrArg}, {[][]int{truthT(), nil, {1808, 90, -40}}, 2, nil, api.ErrArg},
		{[][]int{{1000000001, 0, 0}}, 5, nil, api.ErrArg}, {[][]int{{0, 0, 0}, {0, -1000000001, 0}}, 4, nil, api.ErrArg}, {nil, 5, nil, api.ErrArg},
		{[][]int{truthT()}, 0, nil, api.ErrArg}, {[][]int{truthT()}, 6, nil, api.ErrArg}, {[][]int{truthT()}, -1 << 63, nil, api.ErrArg},
	} {
		if got, e := differ.Joins(planA(), x.firsts, x.size); e != x.e || !slices.Equal(got, x.want) {
			t.Error(i, got, e)
		}
	}
}

// P1.6: all sheets of a truth join; one number that is changed in one first row is noticed.
func TestCutAndJoin(t *testing.T) {
	plans(t, func(t *testing.T, d *dice, p api.DifferPlan) {
		truth, size := d.truth(p), d.From(1, p.Rows)
		firsts, e := differ.Cut(p, truth, size)
		if e != api.OK {
			t.Fatal(p, truth, size, e)
		}
		for sheet, state := range firsts {
			if sheet*size >= p.Rows || !slices.Equal(state, stateOf(truth, sheet*size)) {
				t.Fatal(p, truth, size, firsts)
			}
		}
		if len(firsts)*size < p.Rows {
			t.Fatal(p, truth, size, firsts)
		}
		if torn, e := differ.Joins(p, firsts, size); e != api.OK || len(torn) != 0 {
			t.Fatal(p, firsts, size, torn, e)
		}
		if len(firsts) == 1 {
			return
		}
		sheet := d.From(0, len(firsts)-1)
		firsts[sheet][d.From(0, len(truth)-1)] += d.From(1, 9)
		want := []int{}
		for i := 1; i < len(firsts); i++ {
			if i == sheet || i == sheet+1 && !slices.Equal(firsts[i], stateOf(firsts[sheet], size)) {
				want = append(want, i)
			}
		}
		if torn, e := differ.Joins(p, firsts, size); e != api.OK || len(torn) == 0 || !slices.Equal(torn, want) {
			t.Fatal(p, firsts, size, torn, e)
		}
	})
}
