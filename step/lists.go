package step

import (
	"iter"
	"slices"

	"ephemerist/api"
	"ephemerist/reckon"
)

// Keep returns the list of a step.
func Keep(t api.StepTable, step int) ([]int, api.Errno) {
	if !isTable(t) || !reckon.Within(step, 1, len(t.Values)-1) {
		return nil, api.ErrArg
	}
	return keep(t, step).kept, api.OK
}

// Widest returns the greatest step that surely is right.
func Widest(t api.StepTable) (int, api.Errno) {
	if !isTable(t) {
		return 0, api.ErrArg
	}
	step := len(t.Values) - 1
	// It ends, since with the step 1 all rows are kept.
	for !keep(t, step).isSure() {
		step--
	}
	return step, api.OK
}

// Fewest returns the kept list with the fewest rows that surely is right.
func Fewest(t api.StepTable) ([]int, api.Errno) {
	if !isTable(t) {
		return nil, api.ErrArg
	}
	return fewest(slices.Collect(sureLists(t))), api.OK
}

// Count returns how many such lists there are.
func Count(t api.StepTable) (int, api.Errno) {
	if !isTable(t) {
		return 0, api.ErrArg
	}
	lists := slices.Collect(sureLists(t))
	many, few := 0, len(fewest(lists))
	for _, kept := range lists {
		if len(kept) == few {
			many++
		}
	}
	return many, api.OK
}

// Must returns all rows that must be kept.
func Must(t api.StepTable) ([]int, api.Errno) {
	if !isTable(t) {
		return nil, api.ErrArg
	}
	must := keep(t, 1).kept
	for kept := range sureLists(t) {
		must = slices.DeleteFunc(must, func(row int) bool { return !slices.Contains(kept, row) })
	}
	return must, api.OK
}

// Add returns which row should be kept, too, and how many may be wrong then.
func Add(t api.StepTable, kept []int) (int, int, api.Errno) {
	k := tableWithKept{t, kept}
	if !k.isKept() {
		return 0, 0, api.ErrArg
	}
	var rests []rest
	for row := range len(t.Values) {
		if !slices.Contains(kept, row) {
			rests = append(rests, rest{row, len(k.with(row).doubts())})
		}
	}
	if len(rests) == 0 {
		return 0, 0, api.ErrNone
	}
	best := reckon.Best(rests, func(a, b rest) bool { return a.doubts < b.doubts })
	return best.row, best.doubts, api.OK
}

// rest is how many rows may be wrong when a row is kept, too.
type rest struct {
	row    int
	doubts int
}

// with returns the table with one row more that is kept.
func (k tableWithKept) with(row int) tableWithKept {
	at, _ := slices.BinarySearch(k.kept, row)
	k.kept = slices.Insert(slices.Clone(k.kept), at, row)
	return k
}

// keep returns a table with the list of a step.
func keep(t api.StepTable, step int) tableWithKept {
	last := len(t.Values) - 1
	var kept []int
	for row := 0; row < last; row += step {
		kept = append(kept, row)
	}
	return tableWithKept{t, append(kept, last)}
}

// fewest returns the first of the shortest of some lists.
func fewest(lists [][]int) []int {
	return reckon.Best(lists, func(a, b []int) bool { return len(a) < len(b) })
}

// neighbours tells which rows can be kept next to each other, so that no row
// between them may be wrong.
func neighbours(t api.StepTable) map[pair]bool {
	can := map[pair]bool{}
	for after := range len(t.Values) {
		for before := range after {
			part := t
			part.Values = t.Values[before : after+1]
			can[pair{before, after}] = keep(part, after-before).isSure()
		}
	}
	return can
}

// sureLists goes through all kept lists that surely are right, in lexicographic
// order.
func sureLists(t api.StepTable) iter.Seq[[]int] {
	return func(yield func([]int) bool) {
		can := neighbours(t)
		var fill func(kept []int) bool
		fill = func(kept []int) bool {
			last := kept[len(kept)-1]
			if last == len(t.Values)-1 {
				return yield(kept)
			}
			for row := last + 1; row < len(t.Values); row++ {
				if can[pair{last, row}] && !fill(slices.Concat(kept, []int{row})) {
					return false
				}
			}
			return true
		}
		fill([]int{0})
	}
}
