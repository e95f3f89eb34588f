package copies_test

import (
	"fmt"
	"slices"
	"testing"

	"ephemerist/api"
	"ephemerist/copies"
	"ephemerist/trial"
)

// P7.9: one figure more that is read never makes the errors fewer, and one that was not read never makes them more.
func TestOneFigureMore(t *testing.T) {
	trees(t, 500, func(t *testing.T, _ *dice, x api.CopiesTree) {
		few, e := copies.Fewest(x)
		for at, c := range x.Copies {
			for place, seen := range c.Seen {
				// what is not read any more, and each figure that can be read
				now := list(-1)
				if seen == -1 {
					now = list(0, 1, 2, 3, 5, 9)
				}
				for _, figure := range now {
					other, f := copies.Fewest(reading(x, at, place, figure))
					if e != api.OK || f != api.OK || figure == -1 && other > few || figure != -1 && other < few {
						t.Fatal(x, at, place, figure, few, other, e, f)
					}
				}
			}
		}
	})
}

// P7.9: no figure that a copy could not have in a best story is read without an error more.
func TestFiguresThatCannotBe(t *testing.T) {
	trees(t, 200, func(t *testing.T, _ *dice, x api.CopiesTree) {
		few, _ := copies.Fewest(x)
		for _, c := range unread(x) {
			can, e := copies.Can(x, c[0], c[1])
			for figure := range 10 {
				now, f := copies.Fewest(reading(x, c[0], c[1], figure))
				if e != api.OK || f != api.OK || (now == few) != slices.Contains(can, figure) {
					t.Fatal(x, c, figure, can, few, now, e, f)
				}
			}
		}
	})
}

// results returns the lists that all functions return, and all else as a text.
func results(x api.CopiesTree, s [][]int, hands []int) ([][]int, [][]api.CopiesWord, [][]api.CopiesError, string) {
	var numbers [][]int
	keep := func(n []int, _ api.Errno) { numbers = append(numbers, n) }
	last := len(x.Copies) - 1
	for range 2 {
		keep(copies.Path(x, last))
		keep(copies.Can(x, last, 0))
		keep(copies.Can(x, 0, 0))
		keep(copies.Source(x, 0, 4))
		keep(copies.Apart(x, hands))
		keep(copies.Again(x, s, hands))
		first, _ := copies.First(x)
		numbers = append(numbers, first...)
	}
	text, _ := copies.Print(x)
	for range 2 {
		read, _ := copies.Read(text)
		for _, c := range read.Copies {
			numbers = append(numbers, c.Seen)
		}
	}
	one, _ := copies.Blame(x)
	other, _ := copies.Blame(x)
	made, _ := copies.Errors(x, s)
	again, _ := copies.Errors(x, s)
	return numbers, trial.List(one, other), trial.List(made, again), text + fmt.Sprintln(copies.Shared(x, last, 0)) + fmt.Sprintln(copies.Fewest(x)) + fmt.Sprintln(copies.Count(x)) + fmt.Sprintln(copies.Next(x))
}

// R4 and R8: arguments are not changed, results share no memory, and equal calls have equal results.
func TestMemory(t *testing.T) {
	d := &dice{}
	for _, was := range append(others(), treeA()) {
		x, some := cloned(was), d.hands(was)
		wasTold := d.story(was)
		var s [][]int
		for at, c := range was.Copies {
			x.Copies[at].Seen = trial.WithRoom(slices.Clone(c.Seen)...)
			s = append(s, trial.WithRoom(slices.Clone(wasTold[at])...))
		}
		x.Copies = append(x.Copies, api.CopiesCopy{Parent: 5})[:len(was.Copies)]
		hands := trial.WithRoom(slices.Clone(some)...)
		numbers, words, made, text := results(x, s, hands)
		first := fmt.Sprint(numbers, words, made, text)
		if trial.Share(numbers, func(n *int) { *n += 5 }) || trial.Share(words, func(w *api.CopiesWord) { *w += 5 }) || trial.Share(made, func(e *api.CopiesError) { e.Copy += 5 }) {
			t.Error("results share memory", was)
		}
		untouched := sameTree(x, was) && trial.IsUntouched(hands, some...) && x.Copies[:len(was.Copies)+1][len(was.Copies)].Parent == 5
		for at, c := range was.Copies {
			untouched = untouched && trial.IsUntouched(x.Copies[at].Seen, c.Seen...) && trial.IsUntouched(s[at], wasTold[at]...)
		}
		if !untouched {
			t.Error("an argument was changed", x, s, hands)
		}
		numbers, words, made, text = results(x, s, hands)
		if again := fmt.Sprint(numbers, words, made, text); again != first {
			t.Error(first, again)
		}
	}
}

// R3: nil and empty lists are the same value.
func TestEmptyLists(t *testing.T) {
	refused(t, callsOf(api.CopiesTree{Places: 1, Copies: []api.CopiesCopy{}}, [][]int{}, []int{}, 0, 0, 0))
	refused(t, callsOf(api.CopiesTree{}, nil, nil, 0, 0, 0))
	refused(t, storyCallsOf(treeA(), [][]int{}, []int{}))
	refused(t, storyCallsOf(treeA(), nil, nil))
	for _, hands := range [][]int{nil, {}} {
		if got, e := copies.Apart(treeA(), hands); e != api.OK || len(got) != 0 {
			t.Error(got, e)
		}
		if got, e := copies.Again(treeA(), storyS(), hands); e != api.OK || len(got) != 0 {
			t.Error(got, e)
		}
	}
}

// P0.12: no arguments make a function panic, and whatever comes with an error is zero.
func TestAnyArguments(t *testing.T) {
	d := &dice{trial.Dice{State: 5}}
	one := func() int { return trial.Of(&d.Dice, list(least, most, -100, 100, 10, 9, 8, 7, 3, 2, 1, 0, -1, -2)) }
	for range 3000 {
		x := d.any()
		s, hands := d.story(x), d.hands(x)
		at := d.From(0, len(x.Copies)-1)
		switch d.From(0, 9) {
		case 0:
			x.Places = one()
		case 1:
			x.Copies[at].Parent = one()
		case 2:
			x.Copies[at].Seen[0] = one()
		case 3:
			x.Copies[at].Seen = append(x.Copies[at].Seen, one())
		case 4:
			x.Copies = append(x.Copies, x.Copies...)
		case 5:
			s[at][0] = one()
		case 6:
			s[at] = nil
		case 7:
			s = s[1:]
		case 8:
			hands = append(hands, one())
		}
		for name, call := range callsOf(x, s, hands, one(), one(), one()) {
			zero, e := call()
			if e != api.OK && !zero || e == api.OK && copies.Check(x) != api.OK {
				t.Fatal(name, x, s, hands, zero, e)
			}
		}
	}
}
