package step

import (
	"slices"

	"ephemerist/api"
	"ephemerist/reckon"
)

// Word returns whether a kept list is right.
func Word(t api.StepTable, kept []int) (api.StepWord, api.Errno) {
	k := tableWithKept{t, kept}
	switch {
	case !k.isKept():
		return 0, api.ErrArg
	case k.isSure():
		return api.StepSurely, api.OK
	case k.canBeRight():
		return api.StepMay, api.OK
	}
	return api.StepNever, api.OK
}

// Doubts returns all rows that may be wrong.
func Doubts(t api.StepTable, kept []int) ([]int, api.Errno) {
	k := tableWithKept{t, kept}
	if !k.isKept() {
		return nil, api.ErrArg
	}
	return k.doubts(), api.OK
}

// Proof returns the first truth in which a kept list is not right.
func Proof(t api.StepTable, kept []int) ([]int, api.Errno) {
	k := tableWithKept{t, kept}
	switch {
	case !k.isKept():
		return nil, api.ErrArg
	case k.isSure():
		return nil, api.ErrNone
	}
	return k.firstFailure(), api.OK
}

// Least returns the least Off with which a kept list surely is right.
func Least(t api.StepTable, kept []int) (int, api.Errno) {
	k := tableWithKept{t, kept}
	if !k.isKept() {
		return 0, api.ErrArg
	}
	return slices.Max(k.offs()), api.OK
}

// offs returns by how much the figure of each row differs from its number at
// most.
func (k tableWithKept) offs() []int {
	// No figure grows less when a number grows, so the ends of the values make
	// the ends of all figures.
	var ends [2][]int
	for i, truth := range reckon.Ends(k.Values) {
		ends[i] = k.figures(truth)
	}
	offs := make([]int, len(k.Values))
	for row, v := range k.Values {
		// The figure of a row that is kept is its number, whatever it is.
		if !slices.Contains(k.kept, row) {
			offs[row] = max(v.High-ends[0][row], ends[1][row]-v.Low)
		}
	}
	return offs
}

// doubts returns all rows that may be wrong.
func (k tableWithKept) doubts() []int {
	var rows []int
	for row, off := range k.offs() {
		if off > k.Off {
			rows = append(rows, row)
		}
	}
	return rows
}

// doubt is what a row that may be wrong gives up with.
type doubt struct{}

// mustBeRight gives up at the first row that may be wrong.
func (k tableWithKept) mustBeRight() {
	for _, off := range k.offs() {
		if off > k.Off {
			panic(doubt{})
		}
	}
}

// isSure tells whether the kept list surely is right.
func (k tableWithKept) isSure() (is bool) {
	defer func() {
		if _, doubts := recover().(doubt); doubts {
			is = false
		}
	}()
	k.mustBeRight()
	return true
}

// canBeRight tells whether the kept list is right in some truth.
func (k tableWithKept) canBeRight() bool {
	// Rows between two kept ones hang on the numbers of these two alone; so of
	// all that is before a kept row, it is enough to know with which of its
	// numbers it can be right.
	can := slices.Collect(reckon.Numbers(k.Values[0]))
	for _, p := range k.pairs() {
		var next []int
		for after := range reckon.Numbers(k.Values[p.after]) {
			if slices.ContainsFunc(can, func(before int) bool { return k.canBeBetween(p, before, after) }) {
				next = append(next, after)
			}
		}
		can = next
	}
	return len(can) > 0
}

// canBeBetween tells whether all rows between two kept ones, which have some
// numbers, can be right.
func (k tableWithKept) canBeBetween(p pair, before, after int) bool {
	for row := p.before + 1; row < p.after; row++ {
		v := k.Values[row]
		if !reckon.Within(p.between(row, before, after, k.Rule), v.Low-k.Off, v.High+k.Off) {
			return false
		}
	}
	return true
}

// firstFailure returns the first truth in which the kept list is not right, of
// a kept list that is not sure.
func (k tableWithKept) firstFailure() []int {
	values := k.Values
	k.Values = slices.Clone(values)
	var truth []int
search:
	for row, v := range values {
		for n := range reckon.Numbers(v) {
			k.Values[row] = api.Span{Low: n, High: n}
			if !k.isSure() {
				truth = append(truth, n)
				continue search
			}
		}
	}
	return truth
}
