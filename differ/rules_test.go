package differ_test

import (
	"fmt"
	"slices"
	"testing"

	"ephemerist/api"
	"ephemerist/differ"
	"ephemerist/trial"
)

// P1.9: the values of two truths together are those of both truths added.
func TestTruthsAdded(t *testing.T) {
	plans(t, func(t *testing.T, d *dice, p api.DifferPlan) {
		q, both := plan(p.Rows, 0), plan(p.Rows, 0)
		one := d.truth(p)
		var two, truth []int
		for _, n := range one {
			// towards 0, so that both together are within the bounds of a plan
			m := d.From(min(-n, 0), max(-n, 0))
			two, truth = append(two, m), append(truth, n+m)
			q.Starts, both.Starts = append(q.Starts, span(m, m)), append(both.Starts, span(n+m, n+m))
		}
		x, e := differ.Table(p, one)
		y, f := differ.Table(q, two)
		sum, g := differ.Table(both, truth)
		for row := range p.Rows {
			if e != api.OK || f != api.OK || g != api.OK || sum[row] != x[row]+y[row] {
				t.Fatal(one, two, x, y, sum, e, f, g)
			}
		}
	})
}

// P1.9: with a narrower start no bounds are wider.
func TestNarrowerStart(t *testing.T) {
	plans(t, func(t *testing.T, d *dice, p api.DifferPlan) {
		q := plan(p.Rows, p.Guard, slices.Clone(p.Starts)...)
		s := &q.Starts[d.From(0, len(q.Starts)-1)]
		s.Low = d.From(s.Low, s.High)
		s.High = d.From(s.Low, s.High)
		for _, f := range []func(api.DifferPlan) ([]api.Span, api.Errno){differ.Rows, differ.Printed} {
			wide, _ := f(p)
			narrow, e := f(q)
			for row := range p.Rows {
				if e != api.OK || narrow[row].Low < wide[row].Low || narrow[row].High > wide[row].High {
					t.Fatal(p, q, wide, narrow, e)
				}
			}
		}
	})
}

// P1.9: with fewer rows the first ones are the same.
func TestFewerRows(t *testing.T) {
	plans(t, func(t *testing.T, d *dice, p api.DifferPlan) {
		q := plan(d.From(1, p.Rows), p.Guard, p.Starts...)
		truth := d.truth(p)
		long, _ := differ.Table(p, truth)
		short, e := differ.Table(q, truth)
		if e != api.OK || !slices.Equal(short, long[:q.Rows]) {
			t.Fatal(p, q.Rows, short, long, e)
		}
		for _, f := range []func(api.DifferPlan) ([]api.Span, api.Errno){differ.Rows, differ.Printed} {
			long, _ := f(p)
			if short, e := f(q); e != api.OK || !slices.Equal(short, long[:q.Rows]) {
				t.Fatal(p, q.Rows, short, long, e)
			}
		}
	})
}

// calls calls each function that has a list among its arguments or results, and returns these lists.
func calls(p api.DifferPlan, truth []int, firsts [][]int, seen []api.DifferSeen) ([][]int, [][]api.Span, string) {
	var numbers [][]int
	var spans [][]api.Span
	keep := func(n []int, _ api.Errno) { numbers = append(numbers, n) }
	keepSpans := func(s []api.Span, _ api.Errno) { spans = append(spans, s) }
	keep(differ.Table(p, truth))
	keep(differ.State(p, truth, 0))
	keep(differ.State(p, truth, p.Rows-1))
	keep(differ.Sure(p))
	keep(differ.Climb(truth, 1))
	keep(differ.Climb(truth, 12))
	keep(differ.Joins(p, firsts, 2))
	cut, _ := differ.Cut(p, truth, 2)
	numbers = append(numbers, cut...)
	keepSpans(differ.Rows(p))
	keepSpans(differ.Printed(p))
	keepSpans(differ.Known(p, seen))
	keepSpans(differ.Known(p, nil))
	text, _ := differ.Print(p)
	read, _ := differ.Read(text)
	keepSpans(read.Starts, api.OK)
	doubt, e := differ.Doubt(p)
	widest, f := differ.Widest(p, 0)
	blame, g := differ.Blame(p, 0)
	many, h := differ.Agree(p, seen)
	row, left, i := differ.Next(p, seen)
	return numbers, spans, text + fmt.Sprint(doubt, e, widest, f, blame, g, many, h, row, left, i)
}

// R4 and R8: arguments are not changed, results share no memory, and equal calls have equal results.
func TestMemory(t *testing.T) {
	p, truth, seen := planB(), truthT(), notes(2, 1510)
	firsts := [][]int{truthT(), {1508, 171, -40}, {1808, 90, -40}}
	numbers, spans, text := calls(p, truth, firsts, seen)
	if !samePlan(p, planB()) || !slices.Equal(truth, truthT()) || !slices.Equal(seen, notes(2, 1510)) || !sameLists(firsts, [][]int{truthT(), {1508, 171, -40}, {1808, 90, -40}}) {
		t.Error("an argument was changed", p, truth, seen, firsts)
	}
	first := fmt.Sprint(numbers, spans, text)
	for i := range numbers {
		before := fmt.Sprint(numbers[:i], numbers[i+1:], spans, p, truth, firsts, seen)
		for k := range numbers[i] {
			numbers[i][k] += 7
		}
		if fmt.Sprint(numbers[:i], numbers[i+1:], spans, p, truth, firsts, seen) != before {
			t.Error("numbers share memory", i)
		}
	}
	for i := range spans {
		before := fmt.Sprint(numbers, spans[:i], spans[i+1:], p, truth, firsts, seen)
		for k := range spans[i] {
			spans[i][k].Low += 7
		}
		if fmt.Sprint(numbers, spans[:i], spans[i+1:], p, truth, firsts, seen) != before {
			t.Error("spans share memory", i)
		}
	}
	numbers, spans, text = calls(p, truth, firsts, seen)
	if again := fmt.Sprint(numbers, spans, text); again != first {
		t.Error(first, again)
	}
}

// R3: nil and empty lists are the same value.
func TestEmptyLists(t *testing.T) {
	if many, e := differ.Agree(planA(), []api.DifferSeen{}); many != 6 || e != api.OK {
		t.Error(many, e)
	}
	for _, e := range []api.Errno{
		differ.Check(api.DifferPlan{Starts: []api.Span{}, Rows: 1}),
		trial.Error(differ.Table(planA(), []int{})), trial.Error(differ.Climb([]int{}, 1)), trial.Error(differ.Joins(planA(), [][]int{}, 1)),
	} {
		if e != api.ErrArg {
			t.Error(e)
		}
	}
}

// P0.12: no arguments make a function panic, and whatever comes with an error is zero.
func TestAnyArguments(t *testing.T) {
	d := &dice{trial.Dice{State: 5}}
	odd := list(-1<<63, 1<<63-1, -1000000001, 1000000001, -100000, 100000, 99999, -99999, -1, 0, 1, 2, 3, 5, 7, 12, 13)
	number := func() int { return odd[d.From(0, len(odd)-1)] }
	numbers := func() []int {
		var out []int
		for range d.From(0, 5) {
			out = append(out, number())
		}
		return out
	}
	for range 20000 {
		p := api.DifferPlan{Rows: number(), Guard: number()}
		for range d.From(0, 5) {
			p.Starts = append(p.Starts, span(number(), number()))
		}
		if d.From(0, 1) == 0 {
			p = d.plan()
		}
		var firsts [][]int
		for range d.From(0, 5) {
			firsts = append(firsts, numbers())
		}
		var seen []api.DifferSeen
		for range d.From(0, 7) {
			seen = append(seen, api.DifferSeen{Row: number(), Value: number()})
		}
		anyCalls(t, p, numbers(), firsts, seen, number())
	}
}

func anyCalls(t *testing.T, p api.DifferPlan, truth []int, firsts [][]int, seen []api.DifferSeen, n int) {
	t.Helper()
	zero := func(is bool, e api.Errno) {
		t.Helper()
		if e != api.OK && !is {
			t.Error("not zero beside an error", p, truth, firsts, seen, n, e)
		}
	}
	list := func(x []int, e api.Errno) { t.Helper(); zero(len(x) == 0, e) }
	spans := func(x []api.Span, e api.Errno) { t.Helper(); zero(len(x) == 0, e) }
	one := func(x int, e api.Errno) { t.Helper(); zero(x == 0, e) }
	list(differ.Table(p, truth))
	list(differ.State(p, truth, n))
	spans(differ.Rows(p))
	spans(differ.Printed(p))
	list(differ.Sure(p))
	one(differ.Doubt(p))
	one(differ.Widest(p, n))
	one(differ.Blame(p, n))
	list(differ.Climb(truth, n))
	cut, e := differ.Cut(p, truth, n)
	zero(len(cut) == 0, e)
	list(differ.Joins(p, firsts, n))
	one(differ.Agree(p, seen))
	spans(differ.Known(p, seen))
	row, left, e := differ.Next(p, seen)
	zero(row == 0 && left == 0, e)
	text, e := differ.Print(p)
	zero(text == "", e)
	if (e == api.OK) != (differ.Check(p) == api.OK) {
		t.Error(p, e)
	}
}
