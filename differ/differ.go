// Package differ is layer 1: see shared/doc/01-differ.md.
//
// A plan gives the first row of a table between bounds; all other rows are
// made from it by additions alone.
package differ

import (
	"slices"

	"ephemerist/api"
	"ephemerist/reckon"
)

// Check returns the error of a plan.
func Check(p api.DifferPlan) api.Errno {
	if !isPlan(p) {
		return api.ErrArg
	}
	return api.OK
}

// Table returns the table in a truth.
func Table(p api.DifferPlan, truth []int) ([]int, api.Errno) {
	if !isPlan(p) || !reckon.AreWithin(truth, p.Starts) {
		return nil, api.ErrArg
	}
	return planWithTruth{p, truth}.table(), api.OK
}

// State returns the state of a row.
func State(p api.DifferPlan, truth []int, row int) ([]int, api.Errno) {
	if !isPlan(p) || !reckon.AreWithin(truth, p.Starts) || !isRow(p, row) {
		return nil, api.ErrArg
	}
	return down(truth, row), api.OK
}

// Rows returns between which values each row lies.
func Rows(p api.DifferPlan) ([]api.Span, api.Errno) {
	if !isPlan(p) {
		return nil, api.ErrArg
	}
	// No row grows less when a start grows, so the ends of the starts
	// make the ends of all rows.
	var tables [2][]int
	for i, truth := range reckon.Ends(p.Starts) {
		tables[i] = planWithTruth{p, truth}.table()
	}
	spans := make([]api.Span, p.Rows)
	for row := range p.Rows {
		spans[row] = api.Span{Low: tables[0][row], High: tables[1][row]}
	}
	return spans, api.OK
}

// Climb returns the table whose last row has a state.
func Climb(state []int, rows int) ([]int, api.Errno) {
	if !isState(state) || rows < 1 || rows > api.DifferRows {
		return nil, api.ErrArg
	}
	table := make([]int, rows)
	now := slices.Clone(state)
	for i := range rows {
		table[rows-1-i] = now[0]
		// From the last number on, so that the one after each number is
		// that of the row before already.
		for k := len(now) - 2; k >= 0; k-- {
			now[k] -= now[k+1]
		}
	}
	return table, api.OK
}

// planWithTruth is a plan with one of its truths.
type planWithTruth struct {
	api.DifferPlan
	truth []int
}

// table returns the values of all rows.
func (t planWithTruth) table() []int {
	table := make([]int, t.Rows)
	now := slices.Clone(t.truth)
	for row := range t.Rows {
		table[row] = now[0]
		add(now)
	}
	return table
}

// down returns the state that is reached from a state after some rows.
func down(state []int, rows int) []int {
	now := slices.Clone(state)
	for range rows {
		add(now)
	}
	return now
}

// add makes a state that of the next row.
func add(state []int) {
	// From the first number on, so that the one after each number is still
	// that of the row before.
	for k := range len(state) - 1 {
		state[k] += state[k+1]
	}
}

func isPlan(p api.DifferPlan) bool {
	return isCount(p.Starts) && !slices.ContainsFunc(p.Starts, isNoStart) &&
		reckon.Within(p.Rows, 1, api.DifferRows) && reckon.Within(p.Guard, 0, api.DifferGuard)
}

// isCount tells whether a list has as many elements as a plan can have starts.
func isCount[T any](list []T) bool { return reckon.Within(len(list), 1, api.DifferStarts) }

func isNoStart(s api.Span) bool { return !reckon.IsSpan(s, api.DifferMost, api.DifferWide) }

func isState(state []int) bool {
	return isCount(state) && !slices.ContainsFunc(state, isFar)
}

func isFar(n int) bool { return !reckon.Within(n, -api.DifferFar, api.DifferFar) }

func isRow(p api.DifferPlan, row int) bool { return reckon.Within(row, 0, p.Rows-1) }
