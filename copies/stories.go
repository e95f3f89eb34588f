package copies

import (
	"slices"

	"ephemerist/api"
	"ephemerist/reckon"
)

// Fewest returns how many errors best stories have.
func Fewest(t api.CopiesTree) (int, api.Errno) {
	if !isTree(t) {
		return 0, api.ErrArg
	}
	return reckon.Sum(solve(t).few...), api.OK
}

// First returns the first best story.
func First(t api.CopiesTree) ([][]int, api.Errno) {
	if !isTree(t) {
		return nil, api.ErrArg
	}
	best := solve(t)
	story := make([][]int, len(t.Copies))
	for at := range story {
		for place := range t.Places {
			story[at] = append(story[at], best.stories[place][0][at])
		}
	}
	return story, api.OK
}

// Count returns how many best stories there are.
func Count(t api.CopiesTree) (int, api.Errno) {
	if !isTree(t) {
		return 0, api.ErrArg
	}
	return solve(t).count(), api.OK
}

// Blame returns whether each copy has an error.
func Blame(t api.CopiesTree) ([]api.CopiesWord, api.Errno) {
	if !isTree(t) {
		return nil, api.ErrArg
	}
	best := solve(t)
	var words []api.CopiesWord
	for at := range t.Copies {
		words = append(words, best.wordOf(at))
	}
	return words, api.OK
}

// Can returns all figures that a copy has in best stories.
func Can(t api.CopiesTree, from, place int) ([]int, api.Errno) {
	if !isTree(t) || !isCopy(t, from) || !isPlace(t, place) {
		return nil, api.ErrArg
	}
	figures := solve(t).figures(from, place)
	slices.Sort(figures)
	return slices.Compact(figures), api.OK
}

// Next returns what should be read next, and how many best stories are left at most.
func Next(t api.CopiesTree) (int, int, int, api.Errno) {
	if !isTree(t) {
		return 0, 0, 0, api.ErrArg
	}
	readings := solve(t).readings()
	if len(readings) == 0 {
		return 0, 0, 0, api.ErrNone
	}
	next := reckon.Best(readings, func(a, b reading) bool { return a.left < b.left })
	return next.at, next.place, next.left, api.OK
}

// treeWithBest is a tree with its best stories. The places do not hang on each
// other, so that the best stories are all ways to join best ones of each place.
type treeWithBest struct {
	api.CopiesTree
	// few is how few errors there are at each place.
	few []int
	// stories are, for each place, the best ones of this place: a list of one
	// figure for each copy, in lexicographic order.
	stories [][][]int
}

// solve returns a tree with its best stories.
func solve(t api.CopiesTree) treeWithBest {
	made, best := withMade(t), treeWithBest{CopiesTree: t}
	for place := range t.Places {
		p := lookAt(made, place)
		best.few = append(best.few, p.fewest(0, unread))
		best.stories = append(best.stories, p.stories())
	}
	return best
}

// count returns how many best stories there are.
func (b treeWithBest) count() int {
	many := 1
	for _, stories := range b.stories {
		many *= len(stories)
	}
	return many
}

// figures returns which figure a copy has at a place in each best story of the
// place.
func (b treeWithBest) figures(at, place int) []int {
	var figures []int
	for _, story := range b.stories[place] {
		figures = append(figures, story[at])
	}
	return figures
}

// wordOf returns whether a copy has an error in all best stories, in some, or
// in none.
func (b treeWithBest) wordOf(at int) api.CopiesWord {
	word := api.CopiesNever
	for _, is := range [...]func(int) bool{b.mayErr, b.surelyErrs} {
		if is(at) {
			word++
		}
	}
	return word
}

// mayErr tells whether a copy has an error in some best story.
func (b treeWithBest) mayErr(at int) bool {
	return slices.ContainsFunc(b.stories, func(stories [][]int) bool { return b.errors(at, stories) > 0 })
}

// surelyErrs tells whether a copy has an error in all best stories.
func (b treeWithBest) surelyErrs(at int) bool {
	// If the copy is without one in some story of each place, these can be
	// joined.
	return slices.ContainsFunc(b.stories, func(stories [][]int) bool { return b.errors(at, stories) == len(stories) })
}

// errors returns in how many stories of a place a copy has an error.
func (b treeWithBest) errors(at int, stories [][]int) int {
	many, parent := 0, b.Copies[at].Parent
	for _, story := range stories {
		if story[at] != story[parent] {
			many++
		}
	}
	return many
}

// reading is a copy and a place that were not read, with how many best stories
// are left at most when they are.
type reading struct{ at, place, left int }

// readings returns all that was not read.
func (b treeWithBest) readings() []reading {
	var readings []reading
	for at, c := range b.Copies {
		for place, seen := range c.Seen {
			if seen == unread {
				readings = append(readings, reading{at, place, b.left(at, place)})
			}
		}
	}
	return readings
}

// left returns how many best stories there are at most in which a copy has one
// and the same figure at a place.
func (b treeWithBest) left(at, place int) int {
	var many [lastFigure + 1]int
	for _, figure := range b.figures(at, place) {
		many[figure]++
	}
	others := b.count() / len(b.stories[place])
	return slices.Max(many[:]) * others
}
