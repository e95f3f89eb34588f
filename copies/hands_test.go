package copies_test

import (
	"slices"
	"testing"

	"ephemerist/api"
	"ephemerist/copies"
	"ephemerist/trial"
)

// P7.5
func TestSource(t *testing.T) {
	for i, x := range []struct {
		t            api.CopiesTree
		place, right int
		want         []int
	}{
		{treeA(), 1, 7, list(1)}, {treeA(), 0, 4, list(4, 5)}, {treeA(), 1, 9, nil}, {treeA(), 0, 8, nil}, {treeA(), 1, 1, nil},
		// the copy 0 was not read: each figure that was read can be right
		{tree("0?", "05", "07"), 0, 5, list(2)}, {tree("0?", "05", "07"), 0, 7, list(1)}, {tree("0?", "05", "07"), 0, 6, nil}, {tree("0?", "05", "05", "07"), 0, 5, list(3)}, {tree("0?", "05", "05", "07"), 0, 7, nil},
		// without an error there is no source, if the copies were read
		{tree("04", "0?", "14"), 0, 4, nil}, {tree("04", "04", "14"), 0, 4, nil}, {tree("0?", "04", "14"), 0, 5, list(1)}, {tree("04", "0?", "14", "1?"), 0, 4, list(3)}, {tree("0?"), 0, 5, nil}, {tree("07"), 0, 7, nil},
		// nothing was read
		{tree("0?", "0?", "1?"), 0, 5, list(1, 2)}, {tree("0?", "0?", "0?", "1?"), 0, 0, list(1, 2, 3)},
		// two wrong figures that are not the same one, and a right one among wrong ones
		{tree("04", "0?", "15", "16"), 0, 4, nil}, {tree("04", "0?", "15", "15"), 0, 4, list(1)}, {tree("04", "0?", "15", "14"), 0, 4, list(2)}, {tree("04", "0?", "15", "1?"), 0, 4, list(1, 2)}, {tree("04", "05", "14"), 0, 4, nil}, {tree("04", "05", "15", "25"), 0, 4, list(1)}, {tree("04", "0?", "1?", "25"), 0, 4, list(1, 2, 3)}, {tree("04", "0?", "15", "05"), 0, 4, nil},
		// at other places there can be other errors
		{tree("0444", "0789", "1789", "0444"), 1, 4, list(1)}, {tree("0444", "0749", "1789", "0454"), 2, 4, list(1)}, {tree("0444", "0749", "1789", "0454"), 1, 4, nil},
	} {
		e := api.OK
		if x.want == nil {
			e = api.ErrNone
		}
		if got, f := copies.Source(x.t, x.place, x.right); f != e || !slices.Equal(got, x.want) {
			t.Error(i, got, f)
		}
	}
}

// sourcesOf returns all copies that explain what was read at a place when they alone have an error, with any figure.
func sourcesOf(x api.CopiesTree, place, right int) []int {
	var sources []int
	for at := 1; at < len(x.Copies); at++ {
		for wrong := range 10 {
			made := make([]int, len(x.Copies))
			agrees := wrong != right
			for i, c := range x.Copies {
				made[i] = made[c.Parent]
				switch i {
				case 0:
					made[i] = right
				case at:
					made[i] = wrong
				}
				agrees = agrees && (c.Seen[place] == -1 || c.Seen[place] == made[i])
			}
			if agrees {
				sources = append(sources, at)
			}
		}
	}
	return slices.Compact(sources)
}

// P7.5, P0.7: each copy is named with which one error is enough, and all hands with a wrong figure come from it.
func TestSources(t *testing.T) {
	trees(t, 4000, func(t *testing.T, _ *dice, x api.CopiesTree) {
		for place := range x.Places {
			for right := range 10 {
				want := sourcesOf(x, place, right)
				got, e := copies.Source(x, place, right)
				if !slices.Equal(got, want) || (e == api.ErrNone) != (want == nil) || e != api.ErrNone && e != api.OK {
					t.Fatal(x, place, right, got, e, want)
				}
				for at, c := range x.Copies {
					if seen := c.Seen[place]; seen != -1 && seen != right {
						mustComeFrom(t, x, at, got)
					}
				}
			}
		}
	})
}

func mustComeFrom(t *testing.T, x api.CopiesTree, hand int, sources []int) {
	t.Helper()
	for _, at := range sources {
		if path, e := copies.Path(x, hand); e != api.OK || !slices.Contains(path, at) {
			t.Fatal(x, hand, sources, path, e)
		}
	}
}

// P7.5: when nothing else is wrong than one copy, this one is returned, and two hands with the wrong figure come from it.
func TestOneError(t *testing.T) {
	d := &dice{}
	for range 3000 {
		x := d.treeWith(d.From(2, api.CopiesCopies), d.From(1, api.CopiesPlaces), 10, 0)
		place, at := d.From(0, x.Places-1), d.From(1, len(x.Copies)-1)
		right := d.From(0, 9)
		wrong := (right + d.From(1, 9)) % 10
		var hands []int
		for i := range x.Copies {
			figure := right
			if slices.Contains(ancestors(x, i), at) {
				hands, figure = append(hands, i), wrong
			}
			x.Copies[i].Seen[place] = trial.Of(&d.Dice, list(figure, figure, -1))
		}
		got, e := copies.Source(x, place, right)
		if e != api.OK || !slices.Contains(got, at) {
			t.Fatal(x, place, right, at, got, e)
		}
		for _, one := range hands {
			for _, other := range hands {
				if shared, e := copies.Shared(x, one, other); e != api.OK || !slices.Contains(ancestors(x, shared), at) {
					t.Fatal(x, at, one, other, shared, e)
				}
			}
		}
	}
}

// badHands are lists that are no hands of the chapter's tree.
func badHands() [][]int {
	return trial.List(list(0), list(0, 2), list(2, 0), list(3, 2), list(2, 2), list(1, 3, 2), list(1, 3, 3), list(6), list(2, 6), list(-1), list(-1, 2), list(2, -1), list(most), list(least), list(2, most), list(most, least), list(1, 2, 3, 4, 5, 6), list(0, 1, 2, 3, 4, 5), make([]int, 1000))
}

// P7.6, P7.7
func TestBadHands(t *testing.T) {
	for _, hands := range badHands() {
		calls := callsOf(treeA(), storyS(), hands, 0, 0, 0)
		refused(t, map[string]call{"Apart": calls["Apart"], "Again": calls["Again"]}, hands)
	}
	for _, hands := range trial.List(list(1), list(0)) {
		calls := callsOf(tree("0?"), story("0"), hands, 0, 0, 0)
		refused(t, map[string]call{"Apart": calls["Apart"], "Again": calls["Again"]}, hands)
	}
}

// P7.6
func TestApart(t *testing.T) {
	star, row := tree("0?", "0?", "0?", "0?", "0?", "0?", "0?", "0?"), tree("0?", "0?", "1?", "2?", "3?", "4?", "5?", "6?")
	for i, x := range []struct {
		t           api.CopiesTree
		hands, want []int
	}{
		{treeA(), list(2, 3, 5), list(2, 5)}, {treeA(), list(1, 2, 3), list(1)}, {treeA(), list(1, 2, 3, 4, 5), list(1, 4)}, {treeA(), list(3, 5), list(3, 5)}, {treeA(), list(3, 4, 5), list(3, 4)}, {treeA(), list(4, 5), list(4)}, {treeA(), list(5), list(5)}, {treeA(), nil, nil}, {tree("0?"), nil, nil},
		{star, list(1, 2, 3, 4, 5, 6, 7), list(1, 2, 3, 4, 5, 6, 7)}, {star, list(2, 7), list(2, 7)}, {row, list(1, 2, 3, 4, 5, 6, 7), list(1)}, {row, list(6, 7), list(6)}, {tree("0?", "0?", "0?", "1?", "2?", "1?"), list(3, 4, 5), list(3, 4)}, {tree("0?", "0?", "0?", "2?", "2?", "1?"), list(3, 4, 5), list(3, 5)},
	} {
		if got, e := copies.Apart(x.t, x.hands); e != api.OK || !slices.Equal(got, x.want) {
			t.Error(i, got, e)
		}
	}
}

// listsOf returns all lists of some of the numbers.
func listsOf(numbers []int) [][]int {
	var lists [][]int
	for some := range 1 << len(numbers) {
		var list []int
		for i, n := range numbers {
			if some>>i&1 == 1 {
				list = append(list, n)
			}
		}
		lists = append(lists, list)
	}
	return lists
}

// areApart tells whether the copy 0 alone is on the paths of any two of some hands.
func areApart(x api.CopiesTree, hands []int) bool {
	for i, one := range hands {
		for _, other := range hands[:i] {
			for at := 1; at < len(x.Copies); at++ {
				if slices.Contains(ancestors(x, one), at) && slices.Contains(ancestors(x, other), at) {
					return false
				}
			}
		}
	}
	return true
}

// P7.6: whatever hands somebody proposes.
func TestProposedHands(t *testing.T) {
	trees(t, 1500, func(t *testing.T, d *dice, x api.CopiesTree) {
		hands := d.hands(x)
		var longest []int
		for _, some := range listsOf(hands) {
			if areApart(x, some) && (len(some) > len(longest) || len(some) == len(longest) && slices.Compare(some, longest) < 0) {
				longest = some
			}
		}
		if got, e := copies.Apart(x, hands); e != api.OK || !slices.Equal(got, longest) {
			t.Fatal(x, hands, got, e, longest)
		}
	})
}

// P7.7
func TestAgain(t *testing.T) {
	row := tree("0?", "0?", "1?")
	for i, x := range []struct {
		t     api.CopiesTree
		s     [][]int
		hands []int
		want  []int
	}{
		{treeA(), storyS(), list(2, 5), list(1, 2, 5)}, {treeA(), storyS(), list(3, 4), list(1, 3)}, {treeA(), storyS(), list(1), list(1)}, {treeA(), storyS(), list(4), nil}, {treeA(), storyS(), nil, nil}, {treeA(), storyS(), list(1, 2, 3, 4, 5), list(1, 2, 3, 5)}, {treeA(), storyS(), list(2, 3), list(1, 2, 3)}, {treeA(), story("47", "47", "41", "41", "87", "87"), list(2, 5), list(2, 4, 5)},
		// a hand can be right though its Parent is not, and the other way round
		{row, story("4", "5", "4"), list(2), nil}, {row, story("4", "5", "4"), list(1, 2), list(1)}, {row, story("4", "5", "6"), list(2), list(1, 2)}, {row, story("4", "4", "6"), list(2), list(2)}, {row, story("4", "4", "4"), list(1, 2), nil},
		// further up than a Parent that is right nothing is made again
		{tree("0?", "0?", "1?", "2?"), story("4", "5", "4", "5"), list(3), list(3)}, {tree("0?", "0?", "1?", "2?"), story("4", "5", "4", "5"), list(1, 3), list(1, 3)},
		// one place is enough
		{tree("0???", "0???", "1???"), story("123", "124", "123"), list(1, 2), list(1)}, {tree("0???", "0???", "1???"), story("123", "124", "023"), list(2), list(1, 2)}, {tree("0?"), story("0"), nil, nil},
	} {
		if got, e := copies.Again(x.t, x.s, x.hands); e != api.OK || !slices.Equal(got, x.want) {
			t.Error(i, got, e)
		}
	}
}

// areRight tells whether some hands are right when some copies were made again.
func areRight(x api.CopiesTree, s [][]int, again, hands []int) bool {
	now := slices.Clone(s)
	for _, at := range again {
		now[at] = now[x.Copies[at].Parent]
	}
	return !slices.ContainsFunc(hands, func(hand int) bool { return !slices.Equal(now[hand], now[0]) })
}

// P7.7: when the copies are made again all hands are right, and with no others without one of them.
func TestMadeAgain(t *testing.T) {
	trees(t, 1500, func(t *testing.T, d *dice, x api.CopiesTree) {
		s, hands := d.story(x), d.hands(x)
		got, e := copies.Again(x, s, hands)
		if e != api.OK || !areRight(x, s, got, hands) {
			t.Fatal(x, s, hands, got, e)
		}
		var all []int
		for at := 1; at < len(x.Copies); at++ {
			all = append(all, at)
		}
		for _, some := range listsOf(all) {
			lacks := slices.ContainsFunc(got, func(at int) bool { return !slices.Contains(some, at) })
			if lacks && areRight(x, s, some, hands) {
				t.Fatal(x, s, hands, got, some)
			}
		}
	})
}
