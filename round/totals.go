package round

import (
	"ephemerist/api"
	"ephemerist/reckon"
)

// Total returns between which bounds the total lies.
func Total(s api.RoundSheet, guard int) (api.Span, api.Errno) {
	g := guarded{s, guard}
	if !g.isGuarded() {
		return api.Span{}, api.ErrArg
	}
	return g.rounded(together(g.bounds())), api.OK
}

// Adds returns between which bounds the sum of the figures lies.
func Adds(s api.RoundSheet, guard int) (api.Span, api.Errno) {
	g := guarded{s, guard}
	if !g.isGuarded() {
		return api.Span{}, api.ErrArg
	}
	return together(g.figures()), api.OK
}

// Differs returns by how much the sum of the figures and the total differ.
func Differs(s api.RoundSheet, guard int) (api.Span, api.Errno) {
	g := guarded{s, guard}
	if !g.isGuarded() {
		return api.Span{}, api.ErrArg
	}
	return g.differs(nil), api.OK
}

// First returns the first row with which a total can fail.
func First(s api.RoundSheet, guard int) (int, api.Errno) {
	g := guarded{s, guard}
	if !g.isGuarded() {
		return 0, api.ErrArg
	}
	for row := range len(s.Rows) {
		g.Rows = s.Rows[:row+1]
		if g.canFail(nil) {
			return row, api.OK
		}
	}
	return 0, api.ErrNone
}

// Proof returns the first truth in which the total fails.
func Proof(s api.RoundSheet, guard int) ([]int, api.Errno) {
	g := guarded{s, guard}
	if !g.isGuarded() {
		return nil, api.ErrArg
	}
	truth, is := g.firstFailure()
	if !is {
		return nil, api.ErrNone
	}
	return truth, api.OK
}

// Behind returns between which bounds exact numbers lie if their figures and the total are known.
func Behind(s api.RoundSheet, guard int, figures []int, total int) ([]api.Span, api.Errno) {
	g := guarded{s, guard}
	if !g.isGuarded() || len(figures) != len(s.Rows) {
		return nil, api.ErrArg
	}
	behind, is := g.behind(figures, total)
	if !is {
		return nil, api.ErrNone
	}
	return behind, api.OK
}

// together returns between which bounds the sum of numbers lies, of which each
// is between two bounds.
func together(bounds []api.Span) api.Span {
	var lows, highs []int
	for _, b := range bounds {
		lows, highs = append(lows, b.Low), append(highs, b.High)
	}
	return api.Span{Low: reckon.Sum(lows...), High: reckon.Sum(highs...)}
}

// sums returns, for each sum of exact numbers that the rows from one on can
// have, the least and the greatest sum of their figures.
func (g guarded) sums(from int) map[int]api.Span {
	sums := map[int]api.Span{0: {}}
	for _, bounds := range g.bounds()[from:] {
		sums = g.withRow(sums, bounds)
	}
	return sums
}

// withRow returns the sums that there are with one row more.
func (g guarded) withRow(sums map[int]api.Span, bounds api.Span) map[int]api.Span {
	more := map[int]api.Span{}
	for n := range reckon.Numbers(bounds) {
		figure := g.units(n)
		for sum, figures := range sums {
			figures.Low, figures.High = figures.Low+figure, figures.High+figure
			if others, is := more[sum+n]; is {
				figures.Low, figures.High = min(figures.Low, others.Low), max(figures.High, others.High)
			}
			more[sum+n] = figures
		}
	}
	return more
}

// differs returns what the sum of all figures, less the total, is at least and
// at most in truths that begin with some exact numbers.
func (g guarded) differs(begin []int) api.Span {
	sum, adds := reckon.Sum(begin...), 0
	for _, n := range begin {
		adds += g.units(n)
	}
	var differences []int
	for rest, figures := range g.sums(len(begin)) {
		total := g.units(sum + rest)
		differences = append(differences, adds+figures.Low-total, adds+figures.High-total)
	}
	return api.Span{Low: reckon.Best(differences, isLess), High: reckon.Best(differences, isMore)}
}

func isLess(a, b int) bool { return a < b }

func isMore(a, b int) bool { return a > b }

// canFail tells whether the total fails in a truth that begins with some exact
// numbers.
func (g guarded) canFail(begin []int) bool { return g.differs(begin) != api.Span{} }

// failure is what the search for a truth in which the total fails gives up
// with.
type failure struct{ truth []int }

// firstFailure returns the first truth in which the total fails, or false if
// there is none.
func (g guarded) firstFailure() (truth []int, is bool) {
	defer func() {
		if found, does := recover().(failure); does {
			truth, is = found.truth, true
		}
	}()
	bounds := g.bounds()
	var search func(begin []int)
	search = func(begin []int) {
		switch {
		case !g.canFail(begin):
			return
		case len(begin) == len(bounds):
			panic(failure{begin})
		}
		for n := range reckon.Numbers(bounds[len(begin)]) {
			search(append(begin, n))
		}
	}
	search(nil)
	return nil, false
}

// behind returns the least and the greatest exact number of each row in truths
// with some figures and a total, or false if there is no such truth.
func (g guarded) behind(figures []int, total int) ([]api.Span, bool) {
	behind := g.bounds()
	for row, bounds := range behind {
		numbers, is := g.roundedTo(figures[row], bounds)
		if !is {
			return nil, false
		}
		behind[row] = numbers
	}
	all := together(behind)
	sums, is := g.roundedTo(total, all)
	if !is {
		return nil, false
	}
	for row, numbers := range behind {
		// A row has what is left of the sum when the other ones have as much,
		// or as little, as they can.
		most, least := all.High-numbers.High, all.Low-numbers.Low
		behind[row] = api.Span{Low: max(numbers.Low, sums.Low-most), High: min(numbers.High, sums.High-least)}
	}
	return behind, true
}

// roundedTo returns the least and the greatest of the numbers between two
// bounds that are rounded to a figure, or false if there is none.
func (g guarded) roundedTo(figure int, bounds api.Span) (api.Span, bool) {
	var numbers []int
	for n := range reckon.Numbers(bounds) {
		if g.units(n) == figure {
			numbers = append(numbers, n)
		}
	}
	if len(numbers) == 0 {
		return api.Span{}, false
	}
	return api.Span{Low: numbers[0], High: numbers[len(numbers)-1]}, true
}
