package differ

import (
	"iter"
	"slices"

	"ephemerist/api"
	"ephemerist/reckon"
)

// Agree returns how many truths agree with notes.
func Agree(p api.DifferPlan, seen []api.DifferSeen) (int, api.Errno) {
	if !isPlan(p) || !areNotes(p, seen) {
		return 0, api.ErrArg
	}
	many := 0
	for range agreeing(p, seen) {
		many++
	}
	return many, api.OK
}

// Known returns between which numbers each start lies.
func Known(p api.DifferPlan, seen []api.DifferSeen) ([]api.Span, api.Errno) {
	if !isPlan(p) || !areNotes(p, seen) {
		return nil, api.ErrArg
	}
	var spans []api.Span
	for t := range agreeing(p, seen) {
		if spans == nil {
			spans = points(t.truth)
		}
		for start, n := range t.truth {
			s := spans[start]
			spans[start] = api.Span{Low: min(s.Low, n), High: max(s.High, n)}
		}
	}
	if spans == nil {
		return nil, api.ErrRule
	}
	return spans, api.OK
}

// Next returns which row should become known next, and how many truths are left at most.
func Next(p api.DifferPlan, seen []api.DifferSeen) (int, int, api.Errno) {
	if !isPlan(p) || !areNotes(p, seen) {
		return 0, 0, api.ErrArg
	}
	rests := make([]rest, p.Rows)
	for row := range p.Rows {
		rests[row].row = row
	}
	many := map[cell]int{}
	for t := range agreeing(p, seen) {
		for row, value := range t.table() {
			many[cell{row, value}]++
			rests[row].left = max(rests[row].left, many[cell{row, value}])
		}
	}
	if len(many) == 0 {
		return 0, 0, api.ErrRule
	}
	next := reckon.Best(rests, func(a, b rest) bool { return a.left < b.left })
	return next.row, next.left, api.OK
}

// cell is a value that a row can have.
type cell struct {
	row   int
	value int
}

// rest is how many truths are left at most when a row becomes known.
type rest struct {
	row  int
	left int
}

// truths goes through all truths of a plan, in lexicographic order.
func truths(p api.DifferPlan) iter.Seq[planWithTruth] {
	return func(yield func(planWithTruth) bool) {
		truth := make([]int, len(p.Starts))
		var fill func(start int) bool
		fill = func(start int) bool {
			if start == len(truth) {
				return yield(planWithTruth{p, slices.Clone(truth)})
			}
			for n := range reckon.Numbers(p.Starts[start]) {
				truth[start] = n
				if !fill(start + 1) {
					return false
				}
			}
			return true
		}
		fill(0)
	}
}

// agreeing goes through all truths of a plan that agree with notes.
func agreeing(p api.DifferPlan, seen []api.DifferSeen) iter.Seq[planWithTruth] {
	return func(yield func(planWithTruth) bool) {
		for t := range truths(p) {
			if t.agrees(seen) && !yield(t) {
				return
			}
		}
	}
}

func (t planWithTruth) agrees(seen []api.DifferSeen) bool {
	table := t.table()
	for _, s := range seen {
		if table[s.Row] != s.Value {
			return false
		}
	}
	return true
}

// points returns a span of one number for each number of a truth.
func points(truth []int) []api.Span {
	spans := make([]api.Span, len(truth))
	for start, n := range truth {
		spans[start] = api.Span{Low: n, High: n}
	}
	return spans
}

// areNotes asks for a plan that is as defined.
func areNotes(p api.DifferPlan, seen []api.DifferSeen) bool {
	if len(seen) > api.DifferSeens {
		return false
	}
	for _, s := range seen {
		if !isRow(p, s.Row) || isFar(s.Value) {
			return false
		}
	}
	return true
}
