package round

import (
	"slices"

	"ephemerist/api"
	"ephemerist/reckon"
)

// Check returns the error of a sheet.
func Check(s api.RoundSheet) api.Errno {
	if !isSheet(s) {
		return api.ErrArg
	}
	return api.OK
}

// Bounds returns between which bounds the exact numbers of all rows lie.
func Bounds(s api.RoundSheet, guard int) ([]api.Span, api.Errno) {
	g := guarded{s, guard}
	if !g.isGuarded() {
		return nil, api.ErrArg
	}
	return g.bounds(), api.OK
}

// Figures returns between which bounds the figures of all rows lie.
func Figures(s api.RoundSheet, guard int) ([]api.Span, api.Errno) {
	g := guarded{s, guard}
	if !g.isGuarded() {
		return nil, api.ErrArg
	}
	return g.figures(), api.OK
}

// Word returns whether a row has a figure.
func Word(s api.RoundSheet, guard, row, figure int) (api.RoundWord, api.Errno) {
	g := guarded{s, guard}
	if !g.isGuarded() || !isRow(s, row) {
		return 0, api.ErrArg
	}
	// A unit is 1 at least, so no figure between two others is left out.
	switch figures := g.figures()[row]; {
	case !reckon.Within(figure, figures.Low, figures.High):
		return api.RoundNever, api.OK
	case figures.Low < figures.High:
		return api.RoundMay, api.OK
	}
	return api.RoundSurely, api.OK
}

// Sure returns all rows whose figures are sure.
func Sure(s api.RoundSheet, guard int) ([]int, api.Errno) {
	g := guarded{s, guard}
	if !g.isGuarded() {
		return nil, api.ErrArg
	}
	var sure []int
	for row := range len(s.Rows) {
		if g.isSure(row) {
			sure = append(sure, row)
		}
	}
	return sure, api.OK
}

// Need returns with how many guard figures the figure of a row is sure.
func Need(s api.RoundSheet, row int) (int, api.Errno) {
	if !isSheet(s) || !isRow(s, row) {
		return 0, api.ErrArg
	}
	for guard := range len(s.Errs) {
		if (guarded{s, guard}).isSure(row) {
			return guard, api.OK
		}
	}
	return 0, api.ErrNone
}

// Guards returns with how many guard figures all figures are sure.
func Guards(s api.RoundSheet) (int, api.Errno) {
	if !isSheet(s) {
		return 0, api.ErrArg
	}
search:
	for guard := range len(s.Errs) {
		for row := range len(s.Rows) {
			if !(guarded{s, guard}).isSure(row) {
				continue search
			}
		}
		return guard, api.OK
	}
	return 0, api.ErrNone
}

// guarded is a sheet with a number of guard figures.
type guarded struct {
	api.RoundSheet
	guard int
}

// isGuarded tells whether the sheet is as defined, and has so many guard
// figures.
func (g guarded) isGuarded() bool {
	return isSheet(g.RoundSheet) && reckon.Within(g.guard, 0, len(g.Errs)-1)
}

// bounds returns the least and the greatest exact number of each row.
func (g guarded) bounds() []api.Span {
	bounds := make([]api.Span, len(g.Rows))
	for row, n := range g.Rows {
		bounds[row] = api.Span{Low: n - g.Errs[g.guard], High: n + g.Errs[g.guard]}
	}
	return bounds
}

// figures returns the least and the greatest figure of each row.
func (g guarded) figures() []api.Span {
	figures := g.bounds()
	for row, bounds := range figures {
		figures[row] = g.rounded(bounds)
	}
	return figures
}

func (g guarded) isSure(row int) bool {
	figures := g.figures()[row]
	return figures.Low == figures.High
}

// units returns a number, rounded.
func (g guarded) units(n int) int { return division{n, g.Unit}.by(g.Rule) }

// rounded returns what the numbers between two bounds are at least and at most
// when they are rounded, which makes no greater number less.
func (g guarded) rounded(bounds api.Span) api.Span {
	return api.Span{Low: g.units(bounds.Low), High: g.units(bounds.High)}
}

func isSheet(s api.RoundSheet) bool {
	return reckon.Within(s.Unit, 1, api.RoundUnits) && isRule(s.Rule) &&
		reckon.Within(len(s.Errs), 1, api.RoundGuards) && !slices.ContainsFunc(s.Errs, isNoErr) && doesFall(s.Errs) &&
		reckon.Within(len(s.Rows), 1, api.RoundRows) && !slices.ContainsFunc(s.Rows, isNoRow)
}

func isNoErr(n int) bool { return !reckon.Within(n, 0, api.RoundErr) }

func isNoRow(n int) bool { return !reckon.Within(n, -api.RoundMost, api.RoundMost) }

// doesFall tells whether no number is greater than the one before.
func doesFall(numbers []int) bool {
	for i, n := range numbers {
		if i > 0 && n > numbers[i-1] {
			return false
		}
	}
	return true
}

func isRow(s api.RoundSheet, row int) bool { return reckon.Within(row, 0, len(s.Rows)-1) }
