package copies_test

import (
	"slices"
	"testing"

	"ephemerist/api"
	"ephemerist/copies"
	"ephemerist/trial"
)

// P7.1
func TestCheck(t *testing.T) {
	trees(t, 2000, func(t *testing.T, _ *dice, x api.CopiesTree) {
		if e := copies.Check(x); e != api.OK {
			t.Error(x, e)
		}
	})
}

// P7.1 to P7.8, P0.12: each function refuses each tree that is not as defined.
func TestBadTrees(t *testing.T) {
	for i, x := range badTrees() {
		if e := copies.Check(x); e != api.ErrArg {
			t.Error(i, x, e)
		}
		var seen [][]int
		for _, c := range x.Copies {
			seen = append(seen, c.Seen)
		}
		for _, s := range [][][]int{storyS(), seen, make([][]int, len(x.Copies)), nil} {
			refused(t, callsOf(x, s, nil, 0, 0, 0), "tree ", i)
		}
		refused(t, callsOf(x, storyS(), list(1), 1, 0, 4), "tree ", i)
	}
}

// P7.1
func TestPath(t *testing.T) {
	row := tree("0?", "0?", "1?", "2?", "3?", "4?", "5?", "6?")
	for i, x := range []struct {
		t    api.CopiesTree
		from int
		want []int
	}{
		{treeA(), 5, list(5, 4, 0)}, {treeA(), 0, list(0)}, {treeA(), 1, list(1, 0)}, {treeA(), 3, list(3, 1, 0)}, {treeA(), 4, list(4, 0)}, {row, 7, list(7, 6, 5, 4, 3, 2, 1, 0)}, {row, 2, list(2, 1, 0)}, {tree("0?"), 0, list(0)}, {treeOfText(), 1, list(1, 0)},
	} {
		if got, e := copies.Path(x.t, x.from); e != api.OK || !slices.Equal(got, x.want) {
			t.Error(i, got, e)
		}
	}
}

// P7.1
func TestShared(t *testing.T) {
	deep := tree("0?", "0?", "1?", "2?", "2?", "4?", "3?", "1?")
	for i, x := range []struct {
		t                api.CopiesTree
		one, other, want int
	}{
		{treeA(), 2, 3, 1}, {treeA(), 2, 5, 0}, {treeA(), 1, 3, 1}, {treeA(), 5, 5, 5}, {treeA(), 5, 4, 4}, {treeA(), 0, 5, 0}, {treeA(), 0, 0, 0}, {deep, 5, 6, 2}, {deep, 3, 4, 2}, {deep, 6, 7, 1}, {deep, 3, 6, 3}, {deep, 5, 2, 2}, {tree("0?"), 0, 0, 0},
	} {
		for _, pair := range [][2]int{{x.one, x.other}, {x.other, x.one}} {
			if got, e := copies.Shared(x.t, pair[0], pair[1]); e != api.OK || got != x.want {
				t.Error(i, pair, got, e)
			}
		}
	}
}

// P7.1: the copy that two share is the greatest one from which both come.
func TestProposedCopies(t *testing.T) {
	trees(t, 2000, func(t *testing.T, _ *dice, x api.CopiesTree) {
		for one := range x.Copies {
			path := ancestors(x, one)
			slices.Reverse(path)
			if got, e := copies.Path(x, one); e != api.OK || !slices.Equal(got, path) {
				t.Fatal(x, one, got, e)
			}
			for other := range x.Copies {
				both := slices.DeleteFunc(ancestors(x, other), func(at int) bool { return !slices.Contains(path, at) })
				if got, e := copies.Shared(x, one, other); e != api.OK || got != slices.Max(both) {
					t.Fatal(x, one, other, got, e, both)
				}
			}
		}
	})
}

// P7.1
func TestErrors(t *testing.T) {
	for i, x := range []struct {
		t    api.CopiesTree
		s    [][]int
		want []api.CopiesError
	}{
		{treeA(), storyS(), errors(1, 1, 5, 0)}, {treeA(), story("47", "47", "41", "41", "87", "87"), errors(2, 1, 3, 1, 4, 0)}, {treeA(), story("47", "89", "41", "41", "97", "87"), errors(1, 0, 1, 1, 2, 0, 2, 1, 3, 0, 3, 1, 4, 0, 5, 0)},
		{tree("0?"), story("0"), nil}, {tree("0?"), story("9"), nil}, {tree("05", "05"), story("5", "5"), nil}, {tree("05", "07"), story("5", "7"), errors(1, 0)},
		// an error against the Parent, not against the copy 0
		{tree("0?", "0?", "1?"), story("4", "5", "4"), errors(1, 0, 2, 0)}, {tree("0?", "0?", "1?"), story("4", "5", "5"), errors(1, 0)},
		{tree("0???", "0???"), story("123", "321"), errors(1, 0, 1, 2)},
	} {
		if got, e := copies.Errors(x.t, x.s); e != api.OK || !slices.Equal(got, x.want) {
			t.Error(i, got, e)
		}
	}
	trees(t, 2000, func(t *testing.T, d *dice, x api.CopiesTree) {
		s := d.story(x)
		if got, e := copies.Errors(x, s); e != api.OK || !slices.Equal(got, errorsOf(x, s)) {
			t.Error(x, s, got, e)
		}
	})
}

// P7.1, P7.7: a story has a figure for each place of each copy, which is the one that was read.
func TestBadStories(t *testing.T) {
	bad := [][][]int{nil, {}, storyS()[:5], append(storyS(), list(4, 7)), make([][]int, 6), slices.Repeat(storyS(), 200)}
	with := func(at int, n ...int) {
		s := storyS()
		s[at] = n
		bad = append(bad, s)
	}
	for at, n := range storyS() {
		with(at)
		with(at, n[0])
		with(at, n[0], n[1], 0)
		for _, figure := range list(-1, -2, 10, most, least) {
			with(at, figure, n[1])
			with(at, n[0], figure)
		}
	}
	for _, s := range bad {
		for _, hands := range trial.List(nil, list(2), list(1, 2, 3, 4, 5)) {
			refused(t, storyCallsOf(treeA(), s, hands), s, hands)
		}
	}
}

// P7.1, P7.7: no story has another figure than the one that was read.
func TestReadOtherwise(t *testing.T) {
	trees(t, 200, func(t *testing.T, d *dice, x api.CopiesTree) {
		for at, c := range x.Copies {
			for place, seen := range c.Seen {
				s := d.story(x)
				for figure := range 10 {
					if s[at][place] = figure; seen >= 0 && seen != figure {
						refused(t, storyCallsOf(x, s, nil), x, s)
						refused(t, storyCallsOf(x, s, d.hands(x)), x, s)
					}
				}
			}
		}
	})
}

// P7.1 to P7.5: there are only copies from 0 on, places from 0 on, and figures from 0 to 9.
func TestNumbersThatThereAreNot(t *testing.T) {
	only := func(calls map[string]call, names ...string) map[string]call {
		for name := range calls {
			if !slices.Contains(names, name) {
				delete(calls, name)
			}
		}
		return calls
	}
	for _, x := range append(others(), treeA()) {
		many := len(x.Copies)
		for _, n := range list(-1, most, least, 100) {
			refused(t, only(callsOf(x, nil, nil, n, 0, 0), "Path", "Shared", "Can"), x, n)
			refused(t, only(callsOf(x, nil, nil, 0, n, 0), "Can", "Source"), x, n)
			refused(t, only(callsOf(x, nil, nil, 0, 0, n), "Source"), x, n)
		}
		refused(t, only(callsOf(x, nil, nil, many, 0, 0), "Path", "Shared", "Can"), x)
		refused(t, only(callsOf(x, nil, nil, 0, x.Places, 0), "Can", "Source"), x)
		refused(t, only(callsOf(x, nil, nil, 0, 0, 10), "Source"), x)
		for _, pair := range [][2]int{{0, many}, {many, 0}, {0, -1}, {-1, 0}, {-1, many}, {most, least}} {
			if got, e := copies.Shared(x, pair[0], pair[1]); e != api.ErrArg || got != 0 {
				t.Error(x, pair, got, e)
			}
		}
	}
}
