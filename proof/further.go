package proof

import (
	"iter"
	"slices"

	"ephemerist/api"
	"ephemerist/reckon"
)

// Best returns the pair with which most lines pass, and how many.
func Best(p api.ProofPage) (int, int, int, api.Errno) {
	if !isPage(p) {
		return 0, 0, 0, api.ErrArg
	}
	var further []furtherReading
	for pair := range allPairs(p) {
		further = append(further, furtherReading{pair, len(after(p, pair).passing())})
	}
	best := reckon.Best(further, func(a, b furtherReading) bool { return a.lines > b.lines })
	return best.One, best.Other, best.lines, api.OK
}

// Fewest returns the fewest pairs with which the page passes.
func Fewest(p api.ProofPage) ([]api.ProofPair, api.Errno) {
	if !isPage(p) {
		return nil, api.ErrArg
	}
	all := slices.Collect(allPairs(p))
	for many := range len(all) + 1 {
		for list := range lists(all, many) {
			if after(p, list...).allPass() {
				return list, api.OK
			}
		}
	}
	return nil, api.ErrNone
}

// furtherReading is a pair, with how many lines pass after it has read the page.
type furtherReading struct {
	api.ProofPair
	lines int
}

// allPairs goes through all pairs of the people, in lexicographic order.
func allPairs(p api.ProofPage) iter.Seq[api.ProofPair] {
	return func(yield func(api.ProofPair) bool) {
		for one := range p.People {
			for other := one + 1; other < p.People; other++ {
				if !yield(api.ProofPair{One: one, Other: other}) {
					return
				}
			}
		}
	}
}

// lists goes through the lists of so many of some pairs, which stand in the same
// order, in lexicographic order.
func lists(all []api.ProofPair, many int) iter.Seq[[]api.ProofPair] {
	return func(yield func([]api.ProofPair) bool) {
		var list []api.ProofPair
		var from func(next int) bool
		from = func(next int) bool {
			if len(list) == many {
				return yield(slices.Clone(list))
			}
			for at := next; at < len(all); at++ {
				list = append(list, all[at])
				more := from(at + 1)
				list = list[:len(list)-1]
				if !more {
					return false
				}
			}
			return true
		}
		from(0)
	}
}
