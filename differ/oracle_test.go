package differ_test

import (
	"slices"
	"testing"

	"ephemerist/api"
	"ephemerist/differ"
	"ephemerist/trial"
)

// This file has a second way to each result: all truths are written out, and
// values are sums of binomial coefficients times the numbers of the truth.

func list(n ...int) []int { return trial.List(n...) }

func span(low, high int) api.Span { return api.Span{Low: low, High: high} }

func plan(rows, guard int, starts ...api.Span) api.DifferPlan {
	return api.DifferPlan{Starts: starts, Rows: rows, Guard: guard}
}

// planA and planB are the plans of the chapter, truthT its truth.
func planA() api.DifferPlan { return plan(5, 2, span(1047, 1049), span(250, 251), span(-40, -40)) }

func planB() api.DifferPlan { return plan(5, 2, span(1048, 1050), span(250, 251), span(-40, -40)) }

func truthT() []int { return list(1048, 250, -40) }

func notes(n ...int) []api.DifferSeen {
	var seen []api.DifferSeen
	for i := 0; i < len(n); i += 2 {
		seen = append(seen, api.DifferSeen{Row: n[i], Value: n[i+1]})
	}
	return seen
}

type dice struct{ trial.Dice }

func (d *dice) plan() api.DifferPlan {
	p := api.DifferPlan{Rows: d.From(1, api.DifferRows), Guard: d.From(0, api.DifferGuard)}
	edges := list(-99999, 99999-api.DifferWide, -1000, -55, -8, -3, 0, 7, 495, 1048)
	for range d.From(1, api.DifferStarts) {
		low := edges[d.From(0, len(edges)-1)] + d.From(0, 3)
		wide := min(d.From(0, 3)*d.From(0, 2), api.DifferMost-low)
		p.Starts = append(p.Starts, span(low, low+wide))
	}
	return p
}

func (d *dice) truth(p api.DifferPlan) []int {
	var truth []int
	for _, s := range p.Starts {
		truth = append(truth, d.From(s.Low, s.High))
	}
	return truth
}

// notes are some that one truth agrees with, and now and then one that none does.
func (d *dice) notes(p api.DifferPlan) []api.DifferSeen {
	values := tableOf(p, d.truth(p))
	var seen []api.DifferSeen
	for range d.From(0, api.DifferSeens) {
		row := d.From(0, p.Rows-1)
		seen = append(seen, api.DifferSeen{Row: row, Value: values[row]})
	}
	if len(seen) > 0 && d.From(0, 9) == 0 {
		seen[len(seen)-1].Value += d.From(1, 3)
	}
	return seen
}

// plans calls f with the chapter's plans and with many others.
func plans(t *testing.T, f func(t *testing.T, d *dice, p api.DifferPlan)) {
	t.Helper()
	d := &dice{}
	f(t, d, planA())
	f(t, d, planB())
	for range 300 {
		if p := d.plan(); !t.Failed() {
			f(t, d, p)
		}
	}
}

func binomial(n, k int) int {
	out := 1
	for i := range k {
		out = out * (n - i) / (i + 1)
	}
	return out
}

func stateOf(truth []int, row int) []int {
	state := make([]int, len(truth))
	for i := range truth {
		for k := i; k < len(truth); k++ {
			state[i] += binomial(row, k-i) * truth[k]
		}
	}
	return state
}

func tableOf(p api.DifferPlan, truth []int) []int {
	var values []int
	for row := range p.Rows {
		values = append(values, stateOf(truth, row)[0])
	}
	return values
}

func truthsOf(p api.DifferPlan) [][]int {
	all := [][]int{nil}
	for _, s := range p.Starts {
		var next [][]int
		for _, t := range all {
			for n := s.Low; n <= s.High; n++ {
				next = append(next, append(slices.Clone(t), n))
			}
		}
		all = next
	}
	return all
}

func agreeingOf(p api.DifferPlan, seen []api.DifferSeen) [][]int {
	var all [][]int
	for _, truth := range truthsOf(p) {
		values := tableOf(p, truth)
		if !slices.ContainsFunc(seen, func(s api.DifferSeen) bool { return values[s.Row] != s.Value }) {
			all = append(all, truth)
		}
	}
	return all
}

// figureOf steps down from above to the greatest figure that is not too great.
func figureOf(value, guard int) int {
	unit := []int{1, 10, 100, 1000}[guard]
	figure := value/unit + 2
	for figure*unit > value+unit/2 {
		figure--
	}
	return figure
}

// column returns what each truth has at one place of a list.
func column(lists [][]int, at int) []int {
	var out []int
	for _, l := range lists {
		out = append(out, l[at])
	}
	return out
}

func spanOf(numbers []int) api.Span { return span(slices.Min(numbers), slices.Max(numbers)) }

func tablesOf(p api.DifferPlan, truths [][]int) [][]int {
	var all [][]int
	for _, truth := range truths {
		all = append(all, tableOf(p, truth))
	}
	return all
}

func samePlan(a, b api.DifferPlan) bool {
	return slices.Equal(a.Starts, b.Starts) && a.Rows == b.Rows && a.Guard == b.Guard
}

func sameLists(a, b [][]int) bool { return slices.EqualFunc(a, b, slices.Equal[[]int]) }

// badPlans are plans that are not as defined, each in one way.
func badPlans() []api.DifferPlan {
	zero := span(0, 0)
	const most, least = int(^uint(0) >> 1), -int(^uint(0)>>1) - 1
	return []api.DifferPlan{
		{}, plan(1, 0), plan(1, 0, zero, zero, zero, zero, zero),
		plan(0, 0, zero), plan(13, 0, zero), plan(-1, 0, zero), plan(most, 0, zero), plan(least, 0, zero),
		plan(1, -1, zero), plan(1, 4, zero), plan(1, most, zero), plan(1, least, zero),
		plan(1, 0, span(1, 0)), plan(1, 0, span(0, 7)), plan(1, 0, zero, span(-4, 3)), plan(1, 0, zero, zero, zero, span(5, 4)),
		plan(1, 0, span(-100000, -99999)), plan(1, 0, span(99999, 100000)), plan(1, 0, zero, span(-100000, -100000)), plan(1, 0, span(100000, 100000)),
		plan(1, 0, span(least, most)), plan(1, 0, span(most, least)), plan(1, 0, span(least, least)), plan(1, 0, span(most, most)),
		{Starts: make([]api.Span, 1000), Rows: 1},
	}
}

// TestBadPlans checks that each function refuses each plan that is not as defined, with zero values beside the error (P1.1 to P1.8, P0.12).
func TestBadPlans(t *testing.T) {
	for i, p := range badPlans() {
		truth := make([]int, len(p.Starts))
		if e := differ.Check(p); e != api.ErrArg {
			t.Error(i, e)
		}
		for name, call := range map[string]func() (bool, api.Errno){
			"Table":   func() (bool, api.Errno) { x, e := differ.Table(p, truth); return len(x) == 0, e },
			"State":   func() (bool, api.Errno) { x, e := differ.State(p, truth, 0); return len(x) == 0, e },
			"Rows":    func() (bool, api.Errno) { x, e := differ.Rows(p); return len(x) == 0, e },
			"Printed": func() (bool, api.Errno) { x, e := differ.Printed(p); return len(x) == 0, e },
			"Sure":    func() (bool, api.Errno) { x, e := differ.Sure(p); return len(x) == 0, e },
			"Doubt":   func() (bool, api.Errno) { x, e := differ.Doubt(p); return x == 0, e },
			"Widest":  func() (bool, api.Errno) { x, e := differ.Widest(p, 0); return x == 0, e },
			"Blame":   func() (bool, api.Errno) { x, e := differ.Blame(p, 0); return x == 0, e },
			"Cut":     func() (bool, api.Errno) { x, e := differ.Cut(p, truth, 1); return len(x) == 0, e },
			"Joins":   func() (bool, api.Errno) { x, e := differ.Joins(p, [][]int{truth}, 1); return len(x) == 0, e },
			"Agree":   func() (bool, api.Errno) { x, e := differ.Agree(p, nil); return x == 0, e },
			"Known":   func() (bool, api.Errno) { x, e := differ.Known(p, nil); return len(x) == 0, e },
			"Next":    func() (bool, api.Errno) { x, y, e := differ.Next(p, nil); return x == 0 && y == 0, e },
			"Print":   func() (bool, api.Errno) { x, e := differ.Print(p); return x == "", e },
		} {
			if zero, e := call(); !zero || e != api.ErrArg {
				t.Error(name, i, zero, e)
			}
		}
	}
}
