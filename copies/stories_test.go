package copies_test

import (
	"slices"
	"testing"

	"ephemerist/api"
	"ephemerist/copies"
	"ephemerist/trial"
)

// P7.2, P7.3, P7.4
func TestStories(t *testing.T) {
	none, ok := api.ErrNone, api.OK
	words := func(w ...api.CopiesWord) []api.CopiesWord { return w }
	each := func(n ...[]int) [][][]int {
		var can [][][]int
		for _, x := range n {
			can = append(can, trial.List(x))
		}
		return can
	}
	all := list(0, 1, 2, 3, 4, 5, 6, 7, 8, 9)
	zeros, eight := slices.Repeat(trial.List("000"), 8), slices.Repeat(words(never), 8)
	for _, x := range []struct {
		t    api.CopiesTree
		want known
	}{
		{treeA(), known{2, storyS(), 2, words(never, surely, never, never, may, may), [][][]int{{{4}, {7}}, {{4}, {1}}, {{4}, {1}}, {{4}, {1}}, {{4, 8}, {7}}, {{8}, {7}}}, 4, 0, 1, ok}},
		{treeOfText(), known{0, story("41", "41"), 1, words(never, never), [][][]int{{{4}, {1}}, {{4}, {1}}}, 0, 1, 1, ok}},
		// of one copy, read or not
		{tree("0?"), known{0, story("0"), 10, words(never), each(all), 0, 0, 1, ok}}, {tree("07"), known{0, story("7"), 1, words(never), each(list(7)), 0, 0, 0, none}},
		// nothing was read, at three places: one figure at one of them leaves all of the others
		{tree("0???", "0???", "1???", "2???", "3???", "4???", "5???", "6???"), known{0, story(zeros...), 1000, eight, slices.Repeat([][][]int{{all, all, all}}, 8), 0, 0, 100, ok}},
		// what was made from a copy can be what is right, and one against two is not
		{tree("0?", "05", "07"), known{1, story("5", "5", "7"), 2, words(never, may, may), each(list(5, 7), list(5), list(7)), 0, 0, 1, ok}}, {tree("0?", "05", "05", "07"), known{1, story("5", "5", "5", "7"), 1, words(never, never, never, surely), each(list(5), list(5), list(5), list(7)), 0, 0, 1, ok}},
		// two against one, but these two come from one copy
		{tree("05", "0?", "17", "17"), known{1, story("5", "7", "7", "7"), 1, words(never, surely, never, never), each(list(5), list(7), list(7), list(7)), 1, 0, 1, ok}},
		// an error in any copy of a row; in the middle a reading leaves fewest
		{tree("01", "0?", "1?", "2?", "32"), known{1, story("1", "1", "1", "1", "2"), 4, words(never, may, may, may, may), each(list(1), list(1, 2), list(1, 2), list(1, 2), list(2)), 2, 0, 2, ok}},
		// an error surely at one place, and perhaps at another one; and one of three at one place, and one of two at the other
		{tree("011", "05?", "152"), known{2, story("11", "51", "52"), 2, words(never, surely, may), [][][]int{{{1}, {1}}, {{5}, {1, 2}}, {{5}, {2}}}, 1, 1, 1, ok}},
		{tree("0?1", "0??", "152", "061"), known{2, story("51", "51", "52", "61"), 6, words(never, may, may, may), [][][]int{{{5, 6}, {1}}, {{5, 6}, {1, 2}}, {{5}, {2}}, {{6}, {1}}}, 1, 1, 3, ok}},
	} {
		sameKnown(t, x.t, x.want)
	}
}

// P7.2, P7.3, P7.4: all results are those of all stories.
func TestAllStories(t *testing.T) {
	narrow := 0
	trees(t, 4000, func(t *testing.T, d *dice, x api.CopiesTree) {
		if many := len(unread(x)); many < 3 || many == 3 && d.From(0, 5) == 0 {
			narrow++
			sameKnown(t, x, knownOf(x, fewestOf(x, allStories(x))))
		}
	})
	d := &dice{}
	for range 8 {
		for _, x := range trial.List(d.treeWith(4, 1, 3, 100), d.treeWith(2, 2, 3, 100), d.treeWith(2, 3, 9, 70), d.treeWith(6, 1, 2, 65)) {
			if len(unread(x)) < 5 {
				sameKnown(t, x, knownOf(x, fewestOf(x, allStories(x))))
			}
		}
	}
	if narrow < 1000 {
		t.Error(narrow)
	}
}

// P7.2, P7.3, P7.4: also where there are too many stories to write out.
func TestAllBestStories(t *testing.T) {
	trees(t, 1200, func(t *testing.T, _ *dice, x api.CopiesTree) { sameKnown(t, x, knownOf(x, bestStories(x))) })
}

// P7.2, P7.3: whatever story somebody proposes.
func TestProposedStories(t *testing.T) {
	best := 0
	trees(t, 2000, func(t *testing.T, d *dice, x api.CopiesTree) {
		few, e := copies.Fewest(x)
		first, f := copies.First(x)
		made, g := copies.Errors(x, first)
		if e != api.OK || f != api.OK || g != api.OK || len(made) != few {
			t.Fatal(x, few, first, made, e, f, g)
		}
		var stories [][][]int
		for range 20 {
			s := d.story(x)
			errs, e := copies.Errors(x, s)
			if e != api.OK || len(errs) < few || len(errs) == few && inOrder(s, first) < 0 {
				t.Fatal(x, few, first, s, errs, e)
			}
			if len(errs) == few {
				stories = append(stories, s)
			}
		}
		best += len(stories)
		areToldBy(t, x, stories)
	})
	if best < 1000 {
		t.Error(best)
	}
}

// areToldBy fails if a best story has other errors than copies are blamed for, or a figure that a copy cannot have.
func areToldBy(t *testing.T, x api.CopiesTree, stories [][][]int) {
	t.Helper()
	blame, e := copies.Blame(x)
	for at := range x.Copies {
		word := wordOf(x, stories, at)
		if e != api.OK || len(stories) > 0 && word != blame[at] && blame[at] != may {
			t.Fatal(x, stories, at, word, blame, e)
		}
		for place := range x.Places {
			can, e := copies.Can(x, at, place)
			for _, s := range stories {
				if e != api.OK || !slices.Contains(can, s[at][place]) {
					t.Fatal(x, s, at, place, can, e)
				}
			}
		}
	}
}

// P7.4: when the figure of a best story is read, no more stories are left, and the errors are as few as before.
func TestNextIsRead(t *testing.T) {
	trees(t, 2000, func(t *testing.T, _ *dice, x api.CopiesTree) {
		at, place, left, e := copies.Next(x)
		if e == api.ErrNone {
			return
		}
		few, _ := copies.Fewest(x)
		greatest := 0
		can, f := copies.Can(x, at, place)
		for _, figure := range can {
			now, g := copies.Fewest(reading(x, at, place, figure))
			many, h := copies.Count(reading(x, at, place, figure))
			if f != api.OK || g != api.OK || h != api.OK || now != few || many > left {
				t.Fatal(x, at, place, left, figure, now, many, few, f, g, h)
			}
			greatest = max(greatest, many)
		}
		if e != api.OK || greatest != left || x.Copies[at].Seen[place] != -1 {
			t.Fatal(x, at, place, left, greatest, e)
		}
	})
}

// P7.4: of several the first copy, and then the first place.
func TestNextOfSeveral(t *testing.T) {
	for i, x := range []struct {
		t               api.CopiesTree
		at, place, left int
	}{
		{tree("0??"), 0, 0, 10}, {tree("01?"), 0, 1, 1}, {tree("0??", "0??"), 0, 0, 10}, {tree("012", "034", "1?4", "13?"), 2, 0, 1}, {tree("012", "03?", "1?4"), 1, 1, 1}, {tree("04?", "0??", "18?"), 0, 1, 2},
		// what is known without a reading leaves all
		{tree("01?", "0?1", "112"), 0, 1, 1}, {tree("01?", "0?1", "111"), 0, 1, 1}, {tree("01?", "0?2", "113"), 0, 1, 1}, {tree("01", "0?", "11", "0?", "32"), 3, 0, 1},
	} {
		if at, place, left, e := copies.Next(x.t); e != api.OK || at != x.at || place != x.place || left != x.left {
			t.Error(i, at, place, left, e)
		}
	}
}
