package copies_test

import (
	"cmp"
	"fmt"
	"math/bits"
	"slices"
	"testing"

	"ephemerist/api"
	"ephemerist/copies"
	"ephemerist/trial"
)

// This file has a second way to each result: stories are written out, all of
// them or all those with errors in some copies alone, and counted one by one.

const (
	never  = api.CopiesNever
	may    = api.CopiesMay
	surely = api.CopiesSurely

	most, least = 1<<63 - 1, -1 << 63
)

func list(n ...int) []int { return trial.List(n...) }

// figures returns the figures of a string, -1 for each ?.
func figures(s string) []int {
	var n []int
	for _, c := range s {
		if c == '?' {
			n = append(n, -1)
		} else {
			n = append(n, int(c-'0'))
		}
	}
	return n
}

// tree returns a tree of copies that are written as their Parents with what was
// read in them.
func tree(written ...string) api.CopiesTree {
	t := api.CopiesTree{Places: len(written[0]) - 1}
	for _, w := range written {
		n := figures(w)
		t.Copies = append(t.Copies, api.CopiesCopy{Parent: n[0], Seen: n[1:]})
	}
	return t
}

func story(written ...string) [][]int {
	var s [][]int
	for _, w := range written {
		s = append(s, figures(w))
	}
	return s
}

func errors(n ...int) []api.CopiesError {
	var e []api.CopiesError
	for pair := range slices.Chunk(n, 2) {
		e = append(e, api.CopiesError{Copy: pair[0], Place: pair[1]})
	}
	return e
}

// treeA and storyS are the tree and the story of the chapter.
func treeA() api.CopiesTree { return tree("047", "0??", "141", "141", "0?7", "487") }

func storyS() [][]int { return story("47", "41", "41", "41", "47", "87") }

// treeOfText returns the tree of the chapter's text.
func treeOfText() api.CopiesTree { return tree("04?", "041") }

// others are trees of other forms: of one copy, of copies in a row or of one,
// with nothing read and with all.
func others() []api.CopiesTree {
	return trial.List(treeOfText(), tree("0?"), tree("0???"), tree("07"), tree("05", "05"), tree("05", "07"), tree("0?", "05", "07"), tree("0?", "05", "05", "07"), tree("0?", "0?", "1?"), tree("04?", "0??", "18?"), tree("04", "0?", "14"), tree("04", "0?", "14", "1?"), tree("0?", "01", "02", "03", "04", "05", "06", "07"), tree("0123", "0123", "1123", "2123", "3123", "4123", "5123", "6123"), tree("01", "0?", "1?", "2?", "3?", "4?", "5?", "62"), tree("0???", "0???", "1???", "2???", "3???", "4???", "5???", "6???"), tree("0???", "0???", "0???", "1???", "1???", "2???", "2???", "3???"), tree("01?", "0??", "0??", "11?", "12?", "22?", "21?", "6??"), tree("0999", "0???", "1000", "0???", "3999", "0???", "5900", "1???"))
}

func cloned(t api.CopiesTree) api.CopiesTree {
	t.Copies = slices.Clone(t.Copies)
	for i, c := range t.Copies {
		t.Copies[i].Seen = slices.Clone(c.Seen)
	}
	return t
}

// reading returns a tree in which a figure was read at a place of a copy, or
// none.
func reading(t api.CopiesTree, at, place, figure int) api.CopiesTree {
	t = cloned(t)
	t.Copies[at].Seen[place] = figure
	return t
}

func sameTree(a, b api.CopiesTree) bool {
	return a.Places == b.Places && slices.EqualFunc(a.Copies, b.Copies, func(x, y api.CopiesCopy) bool { return x.Parent == y.Parent && slices.Equal(x.Seen, y.Seen) })
}

func sameStory(a, b [][]int) bool { return slices.EqualFunc(a, b, slices.Equal[[]int]) }

func inOrder(a, b [][]int) int { return slices.Compare(slices.Concat(a...), slices.Concat(b...)) }

// ancestors returns the copy 0 and all others from which a copy comes, and
// itself.
func ancestors(t api.CopiesTree, at int) []int {
	if at == 0 {
		return list(0)
	}
	return append(ancestors(t, t.Copies[at].Parent), at)
}

// errorsOf returns the errors of a story.
func errorsOf(t api.CopiesTree, s [][]int) []api.CopiesError {
	var e []api.CopiesError
	for place := range t.Places {
		for at := len(s) - 1; at > 0; at-- {
			if s[at][place] != s[t.Copies[at].Parent][place] {
				e = append(e, api.CopiesError{Copy: at, Place: place})
			}
		}
	}
	slices.SortFunc(e, func(a, b api.CopiesError) int { return cmp.Or(a.Copy-b.Copy, a.Place-b.Place) })
	return e
}

// unread returns all copies with places that were not read.
func unread(t api.CopiesTree) [][2]int {
	var out [][2]int
	for at, c := range t.Copies {
		for place, seen := range c.Seen {
			if seen < 0 {
				out = append(out, [2]int{at, place})
			}
		}
	}
	return out
}

// allStories returns all stories of a tree.
func allStories(t api.CopiesTree) [][][]int {
	trees := trial.List(t)
	for _, x := range unread(t) {
		var more []api.CopiesTree
		for _, t := range trees {
			for figure := range 10 {
				more = append(more, reading(t, x[0], x[1], figure))
			}
		}
		trees = more
	}
	var all [][][]int
	for _, t := range trees {
		var s [][]int
		for _, c := range t.Copies {
			s = append(s, c.Seen)
		}
		all = append(all, s)
	}
	return all
}

// fewestOf returns those of some stories that have the fewest errors.
func fewestOf(t api.CopiesTree, all [][][]int) [][][]int {
	var best [][][]int
	few := most
	for _, s := range all {
		many := len(errorsOf(t, s))
		if many < few {
			best, few = nil, many
		}
		if many == few {
			best = append(best, s)
		}
	}
	return best
}

// bestStories returns all best stories of a tree, in any order: those of each
// place are joined with those of the others.
func bestStories(t api.CopiesTree) [][][]int {
	joined := [][][]int{make([][]int, len(t.Copies))}
	for place := range t.Places {
		var longer [][][]int
		for _, column := range bestColumns(t, place) {
			for _, s := range joined {
				var next [][]int
				for at, figure := range column {
					next = append(next, append(slices.Clone(s[at]), figure))
				}
				longer = append(longer, next)
			}
		}
		joined = longer
	}
	return joined
}

// bestColumns returns what all copies can have at a place with the fewest
// errors: in any one copy, in any two, and so on.
func bestColumns(t api.CopiesTree, place int) [][]int {
	for many := 0; ; many++ {
		var best [][]int
		for wrong := range 1 << len(t.Copies) {
			if bits.OnesCount(uint(wrong)) == many && wrong&1 == 0 {
				best = append(best, columnsWith(t, place, wrong)...)
			}
		}
		if len(best) > 0 {
			return best
		}
	}
}

// columnsWith returns what all copies can have at a place if just those with a
// bit have an error there.
func columnsWith(t api.CopiesTree, place, wrong int) [][]int {
	columns := [][]int{nil}
	for at, c := range t.Copies {
		var longer [][]int
		for _, column := range columns {
			for figure := range 10 {
				errs := at > 0 && column[c.Parent] != figure
				if (c.Seen[place] < 0 || c.Seen[place] == figure) && errs == (wrong>>at&1 == 1) {
					longer = append(longer, append(slices.Clone(column), figure))
				}
			}
		}
		columns = longer
	}
	return columns
}

// known is all that is told of a tree.
type known struct {
	few             int
	first           [][]int
	count           int
	blame           []api.CopiesWord
	can             [][][]int
	at, place, left int
	next            api.Errno
}

// knownOf returns what all best stories of a tree tell.
func knownOf(t api.CopiesTree, best [][][]int) known {
	k := known{few: len(errorsOf(t, best[0])), first: slices.MinFunc(best, inOrder), count: len(best), next: api.ErrNone}
	for at := range t.Copies {
		k.blame = append(k.blame, wordOf(t, best, at))
		can := make([][]int, t.Places)
		for place := range t.Places {
			for figure := range 10 {
				if with(best, at, place, figure) > 0 {
					can[place] = append(can[place], figure)
				}
			}
		}
		k.can = append(k.can, can)
	}
	for _, x := range unread(t) {
		left := 0
		for figure := range 10 {
			left = max(left, with(best, x[0], x[1], figure))
		}
		if k.next != api.OK || left < k.left {
			k.at, k.place, k.left, k.next = x[0], x[1], left, api.OK
		}
	}
	return k
}

// with returns how many stories have a figure at a place of a copy.
func with(stories [][][]int, at, place, figure int) int {
	many := 0
	for _, s := range stories {
		if s[at][place] == figure {
			many++
		}
	}
	return many
}

func wordOf(t api.CopiesTree, best [][][]int, at int) api.CopiesWord {
	many := 0
	for _, s := range best {
		if slices.ContainsFunc(errorsOf(t, s), func(e api.CopiesError) bool { return e.Copy == at }) {
			many++
		}
	}
	switch many {
	case 0:
		return never
	case len(best):
		return surely
	}
	return may
}

func sameKnown(t *testing.T, x api.CopiesTree, want known) {
	t.Helper()
	if got, e := copies.Fewest(x); e != api.OK || got != want.few {
		t.Error("Fewest", x, got, e, want.few)
	}
	if got, e := copies.First(x); e != api.OK || !sameStory(got, want.first) {
		t.Error("First", x, got, e, want.first)
	}
	if got, e := copies.Count(x); e != api.OK || got != want.count {
		t.Error("Count", x, got, e, want.count)
	}
	if got, e := copies.Blame(x); e != api.OK || !slices.Equal(got, want.blame) {
		t.Error("Blame", x, got, e, want.blame)
	}
	if at, place, left, e := copies.Next(x); e != want.next || at != want.at || place != want.place || left != want.left {
		t.Error("Next", x, at, place, left, e, want.at, want.place, want.left, want.next)
	}
	for at, all := range want.can {
		for place, can := range all {
			if got, e := copies.Can(x, at, place); e != api.OK || !slices.Equal(got, can) {
				t.Error("Can", x, at, place, got, e, can)
			}
		}
	}
}

type dice struct{ trial.Dice }

// treeWith returns a tree of so many copies and places, in which some of so many
// different figures were read, and a part of a hundred was not.
func (d *dice) treeWith(many, places, different, part int) api.CopiesTree {
	t := api.CopiesTree{Places: places}
	for at := range many {
		c := api.CopiesCopy{Parent: d.From(0, max(at-1, 0))}
		if d.From(0, 3) == 0 {
			c.Parent = max(at-1, 0)
		}
		for range places {
			figure := d.From(0, different-1)
			if d.From(1, 100) <= part {
				figure = -1
			}
			c.Seen = append(c.Seen, figure)
		}
		t.Copies = append(t.Copies, c)
	}
	return t
}

// any returns a tree.
func (d *dice) any() api.CopiesTree {
	return d.treeWith(d.From(1, api.CopiesCopies), d.From(1, api.CopiesPlaces), trial.Of(&d.Dice, list(1, 2, 2, 3, 4, 10)), trial.Of(&d.Dice, list(0, 20, 50, 50, 70, 90)))
}

// story returns a story in which few figures are not those of their Parents.
func (d *dice) story(t api.CopiesTree) [][]int {
	var s [][]int
	for at, c := range t.Copies {
		n := slices.Clone(c.Seen)
		for place, seen := range c.Seen {
			switch {
			case seen >= 0:
			case at == 0 || d.From(0, 3) == 0:
				n[place] = d.near(t, place)
			default:
				n[place] = s[c.Parent][place]
			}
		}
		s = append(s, n)
	}
	return s
}

// near returns a figure that was read in some copy at a place, or another one.
func (d *dice) near(t api.CopiesTree, place int) int {
	if seen := trial.Of(&d.Dice, t.Copies).Seen[place]; seen >= 0 {
		return seen
	}
	return d.From(0, 9)
}

// hands returns some hands of a tree.
func (d *dice) hands(t api.CopiesTree) []int {
	var hands []int
	for at := 1; at < len(t.Copies); at++ {
		if d.From(0, 1) == 0 {
			hands = append(hands, at)
		}
	}
	return hands
}

// trees calls f with the chapter's trees and with many others.
func trees(t *testing.T, many int, f func(t *testing.T, d *dice, x api.CopiesTree)) {
	t.Helper()
	d := &dice{}
	for _, x := range append(others(), treeA()) {
		f(t, d, x)
	}
	for range many {
		if x := d.any(); !t.Failed() {
			f(t, d, x)
		}
	}
}

// badTrees are trees that are not as defined, each in one way.
func badTrees() []api.CopiesTree {
	nine := append(slices.Repeat(trial.List("01"), 8), "01")
	bad := trial.List(api.CopiesTree{}, api.CopiesTree{Places: 1}, api.CopiesTree{Places: 2, Copies: []api.CopiesCopy{}}, tree("0"), tree("0", "0"), tree("01234"), tree("0????"), tree(nine...), tree(slices.Repeat(trial.List("0???"), 1000)...))
	for _, places := range list(-1, 0, 1, 3, 4, most, least) {
		x := treeA()
		x.Places = places
		bad = append(bad, x)
	}
	for at := range treeA().Copies {
		for _, parent := range list(-1, max(at, 1), at+1, 6, most, least) {
			x := treeA()
			x.Copies[at].Parent = parent
			bad = append(bad, x)
		}
		for _, seen := range [][]int{nil, {}, {4}, {4, 1, 0}, make([]int, 1000)} {
			x := treeA()
			x.Copies[at].Seen = seen
			bad = append(bad, x)
		}
		for _, figure := range list(-2, 10, most, least, '?') {
			bad = append(bad, reading(treeA(), at, 0, figure), reading(treeA(), at, 1, figure))
		}
	}
	return bad
}

// call is a call of a function, which tells whether its other results are zero.
type call func() (bool, api.Errno)

// callsOf returns calls of all functions that have a tree.
func callsOf(x api.CopiesTree, s [][]int, hands []int, at, place, figure int) map[string]call {
	calls := storyCallsOf(x, s, hands)
	calls["Path"] = func() (bool, api.Errno) { y, e := copies.Path(x, at); return len(y) == 0, e }
	calls["Shared"] = func() (bool, api.Errno) { y, e := copies.Shared(x, at, at); return y == 0, e }
	calls["Fewest"] = func() (bool, api.Errno) { y, e := copies.Fewest(x); return y == 0, e }
	calls["First"] = func() (bool, api.Errno) { y, e := copies.First(x); return len(y) == 0, e }
	calls["Count"] = func() (bool, api.Errno) { y, e := copies.Count(x); return y == 0, e }
	calls["Blame"] = func() (bool, api.Errno) { y, e := copies.Blame(x); return len(y) == 0, e }
	calls["Can"] = func() (bool, api.Errno) { y, e := copies.Can(x, at, place); return len(y) == 0, e }
	calls["Next"] = func() (bool, api.Errno) { y, z, n, e := copies.Next(x); return y == 0 && z == 0 && n == 0, e }
	calls["Source"] = func() (bool, api.Errno) { y, e := copies.Source(x, place, figure); return len(y) == 0, e }
	calls["Apart"] = func() (bool, api.Errno) { y, e := copies.Apart(x, hands); return len(y) == 0, e }
	calls["Print"] = func() (bool, api.Errno) { y, e := copies.Print(x); return y == "", e }
	return calls
}

// storyCallsOf returns calls of all functions that have a story.
func storyCallsOf(x api.CopiesTree, s [][]int, hands []int) map[string]call {
	return map[string]call{
		"Errors": func() (bool, api.Errno) { y, e := copies.Errors(x, s); return len(y) == 0, e },
		"Again":  func() (bool, api.Errno) { y, e := copies.Again(x, s, hands); return len(y) == 0, e },
	}
}

// refused fails if a call does not return ErrArg with zero values beside it.
func refused(t *testing.T, calls map[string]call, what ...any) {
	t.Helper()
	for name, call := range calls {
		if zero, e := call(); !zero || e != api.ErrArg {
			t.Error(name, fmt.Sprint(what...), zero, e)
		}
	}
}
