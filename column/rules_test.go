package column_test

import (
	"fmt"
	"slices"
	"testing"

	"ephemerist/api"
	"ephemerist/column"
	"ephemerist/differ"
	"ephemerist/trial"
)

// noMore fails if more windows of a sheet jump than of another one, or more rows must be wrong.
func noMore(t *testing.T, s, than api.ColumnSheet) {
	t.Helper()
	before, e := column.Jumps(than)
	after, f := column.Jumps(s)
	if e != api.OK || f != api.OK || slices.ContainsFunc(after, func(window int) bool { return !slices.Contains(before, window) }) {
		t.Fatal("Jumps", than, s, before, after, e, f)
	}
	wrong, _ := column.Wrong(than)
	if less, e := column.Wrong(s); e != api.OK || len(less) > len(wrong) {
		t.Fatal("Wrong", than, s, wrong, less, e)
	}
}

// P3.9
func TestWiderSmooth(t *testing.T) {
	sheets(t, 2000, func(t *testing.T, d *dice, s api.ColumnSheet) {
		wider := s
		wider.Smooth.Low = max(s.Smooth.Low-d.From(0, 5), -api.ColumnFar)
		wider.Smooth.High = min(s.Smooth.High+d.From(0, 5), api.ColumnFar)
		noMore(t, wider, s)
	})
}

// P3.9
func TestWithoutTheLastRow(t *testing.T) {
	sheets(t, 1000, func(t *testing.T, _ *dice, s api.ColumnSheet) {
		for last := len(s.Values) - 1; last > 0; last-- {
			shorter := withValues(s, s.Values[:last])
			noMore(t, shorter, s)
			s = shorter
		}
	})
}

// P3.9: if the same number is added to all values, all windows jump as before.
func TestAddedNumber(t *testing.T) {
	sheets(t, 2000, func(t *testing.T, d *dice, s api.ColumnSheet) {
		other := withValues(s, d.moved(s.Values))
		if column.Check(other) != api.OK {
			return
		}
		for name, f := range map[string]func(api.ColumnSheet) string{
			"Jumps":   func(s api.ColumnSheet) string { return fmt.Sprint(column.Jumps(s)) },
			"Wide":    func(s api.ColumnSheet) string { return fmt.Sprint(column.Wide(s)) },
			"Wrong":   func(s api.ColumnSheet) string { return fmt.Sprint(column.Wrong(s)) },
			"Count":   func(s api.ColumnSheet) string { return fmt.Sprint(column.Count(s)) },
			"Suspect": func(s api.ColumnSheet) string { return fmt.Sprint(column.Suspect(s)) },
			"Proof":   func(s api.ColumnSheet) string { return fmt.Sprint(column.Proof(s)) },
			"Swaps":   func(s api.ColumnSheet) string { return fmt.Sprint(column.Swaps(s)) },
		} {
			if a, b := f(s), f(other); a != b {
				t.Fatal(name, s, other, a, b)
			}
		}
	})
}

// P3.9: in a table that is made by layer 1 all differences of its order are the same, and a change of one value is taken back.
func TestTablesMadeByAdditions(t *testing.T) {
	d := &dice{}
	for range 2000 {
		order := d.From(1, min(api.ColumnOrder, api.DifferStarts-1))
		truth := list(d.From(-100, 100), d.From(-100, 100), d.From(-50, 50), d.From(-20, 20))[:order+1]
		plan := api.DifferPlan{Rows: d.From(order+1, min(api.DifferRows, api.ColumnRows))}
		for _, n := range truth {
			plan.Starts = append(plan.Starts, span(n, n))
		}
		table, e := differ.Table(plan, truth)
		s := sheet(order, truth[order], truth[order], table...)
		differences, f := column.Differences(s, order)
		if e != api.OK || f != api.OK || slices.Min(differences) != truth[order] || slices.Max(differences) != truth[order] {
			t.Fatal(plan, table, differences, e, f)
		}
		takenBack(t, d, s)
	}
}

func takenBack(t *testing.T, d *dice, s api.ColumnSheet) {
	t.Helper()
	row := d.From(0, len(s.Values)-1)
	right := s.Values[row]
	s = withValues(s, slices.Clone(s.Values))
	s.Values[row] += d.From(1, 9) * (2*d.From(0, 1) - 1)
	single, e := column.Single(s)
	if e != api.OK || !slices.Contains(single, api.ColumnFix{Row: row, Values: span(right, right)}) {
		t.Fatal("Single", s, row, right, single, e)
	}
	r, v, e := column.Least(s)
	if less := max(v-s.Values[r], s.Values[r]-v); e != api.OK || len(single) == 1 && (r != row || v != right) || less > max(right-s.Values[row], s.Values[row]-right) {
		t.Fatal("Least", s, row, right, r, v, e)
	}
}

// results calls each function that has a list among its results, and returns these lists.
func results(s api.ColumnSheet) ([][]int, [][]api.ColumnFix, []api.ColumnWord, string) {
	var numbers [][]int
	var changes [][]api.ColumnFix
	keep := func(n []int, _ api.Errno) { numbers = append(numbers, n) }
	keepChanges := func(f []api.ColumnFix, _ api.Errno) { changes = append(changes, f) }
	keep(column.Differences(s, 0))
	keep(column.Differences(s, s.Order))
	keep(column.Jumps(s))
	keep(column.Wrong(s))
	keep(column.Proof(s))
	keep(column.Swaps(s))
	keepChanges(column.Single(s))
	keepChanges(column.Insert(s))
	suspect, _ := column.Suspect(s)
	text, _ := column.Print(s)
	read, _ := column.Read(text)
	keep(read.Values, api.OK)
	return numbers, changes, suspect, text + fmt.Sprintln(column.Wide(s)) + fmt.Sprintln(column.Order(s)) + fmt.Sprintln(column.Count(s)) + fmt.Sprintln(column.Least(s)) + fmt.Sprintln(column.Between(s, 0))
}

// R4 and R8: arguments are not changed, results share no memory, and equal calls have equal results.
func TestMemory(t *testing.T) {
	for _, make := range []func() api.ColumnSheet{sheetA, sheetB, sheetC, sheetD} {
		s := make()
		// Room behind the values, where something could be written.
		s.Values = append(s.Values, 5)[:len(s.Values)]
		numbers, changes, suspect, text := results(s)
		first := fmt.Sprint(numbers, changes, suspect, text)
		for i := range numbers {
			before := fmt.Sprint(numbers[:i], numbers[i+1:], changes)
			for k := range numbers[i] {
				numbers[i][k] += 5
			}
			_ = append(numbers[i], 7)
			if fmt.Sprint(numbers[:i], numbers[i+1:], changes) != before {
				t.Error("results share memory", i)
			}
		}
		for i := range changes {
			for k := range changes[i] {
				changes[i][k].Row += 5
			}
		}
		for i := range suspect {
			suspect[i] += 5
		}
		if !sameSheet(s, make()) || s.Values[:len(s.Values)+1][len(s.Values)] != 5 {
			t.Error("an argument was changed", s)
		}
		numbers, changes, suspect, text = results(s)
		if again := fmt.Sprint(numbers, changes, suspect, text); again != first {
			t.Error(first, again)
		}
	}
}

// R3: nil and empty lists are the same value.
func TestEmptyLists(t *testing.T) {
	for _, none := range [][]int{nil, {}} {
		s := sheet(1, 0, 0, none...)
		if e := column.Check(s); e != api.ErrArg {
			t.Error(e)
		}
		for name, call := range callsOf(s, 0, 0) {
			if zero, e := call(); !zero || e != api.ErrArg {
				t.Error(name, zero, e)
			}
		}
	}
}

// P0.12: no arguments make a function panic, and whatever comes with an error is zero.
func TestAnyArguments(t *testing.T) {
	d := &dice{trial.Dice{State: 5}}
	odd := list(-1<<63, 1<<63-1, -100000, 100000, -99999, 99999, -10000, 10000, 9999, -9999, -1, 0, 1, 2, 3, 4, 14, 15)
	one := func() int { return trial.Of(&d.Dice, odd) }
	for range 5000 {
		s := d.sheet()
		switch d.From(0, 4) {
		case 0:
			*trial.Of(&d.Dice, trial.List(&s.Order, &s.Smooth.Low, &s.Smooth.High)) = one()
		case 1:
			s.Values[d.From(0, len(s.Values)-1)] = one()
		case 2:
			s = sheet(one(), one(), one())
			for range d.From(0, 16) {
				s.Values = append(s.Values, one())
			}
		}
		for name, call := range callsOf(s, one(), one()) {
			zero, e := call()
			if e != api.OK && !zero || e == api.OK && column.Check(s) != api.OK {
				t.Fatal(name, s, zero, e)
			}
		}
	}
}
