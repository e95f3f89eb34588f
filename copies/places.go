package copies

import (
	"slices"

	"ephemerist/api"
	"ephemerist/reckon"
)

// treeWithMade is a tree with the copies that were made from each one.
type treeWithMade struct {
	api.CopiesTree
	made [][]int
}

func withMade(t api.CopiesTree) treeWithMade {
	w := treeWithMade{t, make([][]int, len(t.Copies))}
	for at := 1; at < len(t.Copies); at++ {
		parent := t.Copies[at].Parent
		w.made[parent] = append(w.made[parent], at)
	}
	return w
}

// copyWithFigure is a copy that has a figure.
type copyWithFigure struct{ at, figure int }

// atPlace is a tree of which one place alone is looked at.
type atPlace struct {
	treeWithMade
	place int
	// few is how few errors there are in all copies that come from one, but
	// for itself, if it has a figure.
	few map[copyWithFigure]int
}

// lookAt returns a place of a tree.
func lookAt(t treeWithMade, place int) atPlace {
	p := atPlace{t, place, map[copyWithFigure]int{}}
	// A copy comes after the one that it was made from.
	for at := range slices.Backward(t.Copies) {
		for _, figure := range p.possible(at) {
			var errors []int
			for _, next := range t.made[at] {
				errors = append(errors, p.fewest(next, figure))
			}
			p.few[copyWithFigure{at, figure}] = reckon.Sum(errors...)
		}
	}
	return p
}

// possible returns all figures that a copy can have in some story.
func (p atPlace) possible(at int) []int {
	if seen := p.Copies[at].Seen[p.place]; seen != unread {
		return []int{seen}
	}
	return slices.Collect(reckon.Numbers(api.Span{Low: 0, High: lastFigure}))
}

// errors returns how few errors there are from a copy on, if it has a figure,
// and its Parent another one or the same one. That of the copy 0 is unread.
func (p atPlace) errors(at, figure, parent int) int {
	few := p.few[copyWithFigure{at, figure}]
	if parent != unread && parent != figure {
		few++
	}
	return few
}

// fewest returns how few errors there are from a copy on, if its Parent has a
// figure.
func (p atPlace) fewest(at, parent int) int {
	var errors []int
	for _, figure := range p.possible(at) {
		errors = append(errors, p.errors(at, figure, parent))
	}
	return slices.Min(errors)
}

// best returns all figures of a copy with which there are no more errors than
// there must be, if its Parent has a figure.
func (p atPlace) best(at, parent int) []int {
	few := p.fewest(at, parent)
	return slices.DeleteFunc(p.possible(at), func(figure int) bool { return p.errors(at, figure, parent) > few })
}

// stories returns all lists of one figure for each copy that have the fewest
// errors, in lexicographic order.
func (p atPlace) stories() [][]int {
	var stories [][]int
	var tell func(story []int)
	tell = func(story []int) {
		at, parent := len(story), unread
		if at == len(p.Copies) {
			stories = append(stories, story)
			return
		}
		if at > 0 {
			parent = story[p.Copies[at].Parent]
		}
		for _, figure := range p.best(at, parent) {
			tell(slices.Concat(story, []int{figure}))
		}
	}
	tell(nil)
	return stories
}
