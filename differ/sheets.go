package differ

import (
	"slices"

	"ephemerist/api"
	"ephemerist/reckon"
)

// Cut returns the states with which sheets begin.
func Cut(p api.DifferPlan, truth []int, size int) ([][]int, api.Errno) {
	if !isPlan(p) || !reckon.AreWithin(truth, p.Starts) || !reckon.Within(size, 1, p.Rows) {
		return nil, api.ErrArg
	}
	firsts := make([][]int, sheets(p, size))
	for sheet := range firsts {
		firsts[sheet] = down(truth, sheet*size)
	}
	return firsts, api.OK
}

// Joins returns all sheets that do not join.
func Joins(p api.DifferPlan, firsts [][]int, size int) ([]int, api.Errno) {
	if !isPlan(p) || !reckon.Within(size, 1, p.Rows) || !areFirsts(p, firsts, size) {
		return nil, api.ErrArg
	}
	var torn []int
	for sheet := 1; sheet < len(firsts); sheet++ {
		if !slices.Equal(firsts[sheet], down(firsts[sheet-1], size)) {
			torn = append(torn, sheet)
		}
	}
	return torn, api.OK
}

// sheets returns how many sheets of a size a plan has.
func sheets(p api.DifferPlan, size int) int { return (p.Rows-1)/size + 1 }

// areFirsts asks for a plan and a size that are as defined.
func areFirsts(p api.DifferPlan, firsts [][]int, size int) bool {
	if len(firsts) != sheets(p, size) {
		return false
	}
	for _, state := range firsts {
		if len(state) != len(p.Starts) || !isState(state) {
			return false
		}
	}
	return true
}
