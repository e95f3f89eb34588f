package hands_test

import (
	"fmt"
	"slices"
	"testing"

	"ephemerist/api"
	"ephemerist/hands"
	"ephemerist/trial"
)

// P2.8, P0.2: one comparison more never makes more numbers possible, nor a row that was sure less sure.
func TestOneHandMore(t *testing.T) {
	sheets(t, 1000, func(t *testing.T, d *dice, s api.HandsSheet, _ []int) {
		if len(s.Columns) == 1 || trial.Error(hands.First(s)) != api.OK {
			return
		}
		less := without(s, d.From(0, len(s.Columns)-1))
		before, e := hands.Sure(less)
		after, f := hands.Sure(s)
		if e != api.OK || f != api.OK {
			t.Fatal(s, less, e, f)
		}
		for row := range s.Columns[0] {
			wide, e := hands.Values(less, row)
			narrow, f := hands.Values(s, row)
			if slices.Contains(before, row) && !slices.Contains(after, row) {
				t.Fatal("Sure", s, less, before, after)
			}
			if e != api.ErrOpen && (f != api.OK || slices.ContainsFunc(narrow, func(n int) bool { return !slices.Contains(wide, n) })) {
				t.Fatal("Values", s, less, row, wide, narrow)
			}
		}
	})
}

// told returns all that is told of a sheet, hand by hand in an order.
func told(s api.HandsSheet, right []int, order []int) string {
	text := fmt.Sprintln(hands.Apart(s)) + fmt.Sprintln(hands.Agrees(s, right)) + fmt.Sprintln(hands.Sure(s)) + fmt.Sprintln(hands.Next(s)) + fmt.Sprintln(hands.Least(s))
	all, e := hands.Hands(s)
	text += fmt.Sprintln(e)
	for _, hand := range order {
		if e == api.OK {
			text += fmt.Sprintln(all[hand])
		}
		text += fmt.Sprintln(hands.Wrong(s, hand))
		for _, other := range order {
			text += fmt.Sprintln(hands.Both(s, hand, other))
		}
	}
	return text
}

func upTo(many int) []int {
	var all []int
	for n := range many {
		all = append(all, n)
	}
	return all
}

// P2.8: it does not matter in which order the hands are.
func TestOrderOfHands(t *testing.T) {
	sheets(t, 500, func(t *testing.T, d *dice, s api.HandsSheet, right []int) {
		order := upTo(len(s.Columns))
		for i := range order {
			k := d.From(0, i)
			order[i], order[k] = order[k], order[i]
		}
		var other api.HandsSheet
		for _, hand := range order {
			other.Columns, other.Errors = append(other.Columns, s.Columns[hand]), append(other.Errors, s.Errors[hand])
		}
		if a, b := told(s, right, order), told(other, right, upTo(len(order))); a != b {
			t.Fatal(s, order, a, b)
		}
		if a, b := fmt.Sprint(hands.First(s)), fmt.Sprint(hands.First(other)); a != b {
			t.Fatal("First", s, order, a, b)
		}
		for row := range right {
			if a, b := fmt.Sprint(hands.Values(s, row)), fmt.Sprint(hands.Values(other, row)); a != b {
				t.Fatal("Values", s, order, row, a, b)
			}
		}
	})
}

func minus(column []int) []int {
	var out []int
	for _, n := range column {
		out = append(out, -n)
	}
	return out
}

// P2.8: if all numbers have the other sign, all results have, too.
func TestOtherSign(t *testing.T) {
	sheets(t, 500, func(t *testing.T, d *dice, s api.HandsSheet, right []int) {
		other := copyOf(s)
		for hand, column := range s.Columns {
			other.Columns[hand] = minus(column)
			if a, b := fmt.Sprint(hands.Errors(right, column)), fmt.Sprint(hands.Errors(minus(right), minus(column))); a != b {
				t.Fatal("Errors", right, column, a, b)
			}
		}
		order := upTo(len(s.Columns))
		if a, b := told(s, right, order), told(other, minus(right), order); a != b {
			t.Fatal(s, a, b)
		}
		for row := range right {
			values, e := hands.Values(s, row)
			got, f := hands.Values(other, row)
			slices.Reverse(got)
			if e != f || !slices.Equal(minus(got), values) {
				t.Fatal("Values", s, row, values, got, e, f)
			}
		}
	})
}

// results calls each function that has a list among its results, and returns these lists, and all else as a text.
func results(s api.HandsSheet, right []int) ([][]int, [][]api.HandsWord, []api.HandsError, string) {
	var numbers [][]int
	var said [][]api.HandsWord
	keep := func(n []int, _ api.Errno) { numbers = append(numbers, n) }
	say := func(w []api.HandsWord, _ api.Errno) { said = append(said, w) }
	keep(hands.Apart(s))
	keep(hands.First(s))
	keep(hands.Values(s, 0))
	keep(hands.Values(s, len(right)-1))
	keep(hands.Sure(s))
	keep(hands.Both(s, 0, 1))
	say(hands.Wrong(s, 0))
	say(hands.Hands(s))
	made, _ := hands.Errors(right, s.Columns[0])
	text, _ := hands.Print(s)
	read, _ := hands.Read(text)
	numbers = append(append(numbers, read.Columns...), read.Errors)
	return numbers, said, made, told(s, right, upTo(len(s.Columns)))
}

// R4 and R8: arguments are not changed, results share no memory, and equal calls have equal results.
func TestMemory(t *testing.T) {
	for _, make := range []func() api.HandsSheet{sheetA, sheetB, func() api.HandsSheet { return sheet(list(2, 2), list(8, 8), list(8, 8)) }} {
		s, right := make(), make().Columns[1]
		numbers, said, made, text := results(s, right)
		first := fmt.Sprint(numbers, said, made, text)
		for i := range numbers {
			before := fmt.Sprint(numbers[:i], numbers[i+1:], said, made)
			for k := range numbers[i] {
				numbers[i][k] += 5
			}
			_ = append(numbers[i], 5)
			if fmt.Sprint(numbers[:i], numbers[i+1:], said, made) != before {
				t.Error("results share memory", i)
			}
		}
		for i := range said {
			before := fmt.Sprint(said[:i], said[i+1:])
			for k := range said[i] {
				said[i][k] += 5
			}
			if fmt.Sprint(said[:i], said[i+1:]) != before {
				t.Error("words share memory", i)
			}
		}
		if !sameSheet(s, make()) || !slices.Equal(right, make().Columns[1]) {
			t.Error("an argument was changed", s, right)
		}
		numbers, said, made, text = results(s, right)
		if again := fmt.Sprint(numbers, said, made, text); again != first {
			t.Error(first, again)
		}
	}
}

// R3: nil and empty lists are the same value.
func TestEmptyLists(t *testing.T) {
	for _, none := range [][]int{nil, {}} {
		for i, e := range []api.Errno{
			hands.Check(api.HandsSheet{Columns: [][]int{}, Errors: none}), hands.Check(sheet(none, list(1))), hands.Check(sheet(list(0), none)),
			trial.Error(hands.Errors(none, none)), trial.Error(hands.Errors(list(1), none)), trial.Error(hands.Errors(none, list(1))), trial.Error(hands.Agrees(sheetA(), none)),
		} {
			if e != api.ErrArg {
				t.Error(i, e)
			}
		}
	}
}

// P0.12: no arguments make a function panic, and whatever comes with an error is zero.
func TestAnyArguments(t *testing.T) {
	d := &dice{trial.Dice{State: 5}}
	odd := list(-1<<63, 1<<63-1, -1000, 1000, 999, -999, -1, 0, 1, 2, 3, 6, 7, 10, 100)
	numbers := func() []int {
		var out []int
		for range d.From(0, 3) {
			out = append(out, trial.Of(&d.Dice, odd))
		}
		return out
	}
	for range 5000 {
		s, right := d.sheet()
		if d.From(0, 1) == 0 {
			s = api.HandsSheet{Errors: numbers()}
			for range d.From(0, 4) {
				s.Columns = append(s.Columns, numbers())
			}
		}
		if d.From(0, 1) == 0 {
			right = numbers()
		}
		for name, call := range callsOf(s, right, trial.Of(&d.Dice, odd), trial.Of(&d.Dice, odd), trial.Of(&d.Dice, odd)) {
			zero, e := call()
			if e != api.OK && !zero || e == api.OK && hands.Check(s) != api.OK {
				t.Fatal(name, s, right, zero, e)
			}
		}
		for _, column := range s.Columns {
			if made, e := hands.Errors(right, column); e != api.OK && len(made) > 0 {
				t.Fatal(right, column, made, e)
			}
		}
	}
}
