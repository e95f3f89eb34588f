package round_test

import (
	"fmt"
	"slices"
	"testing"

	"ephemerist/api"
	"ephemerist/round"
	"ephemerist/trial"
)

// boundsOf returns all bounds with some guard figures.
func boundsOf(t *testing.T, s api.RoundSheet, guard int) []api.Span {
	t.Helper()
	var all []api.Span
	keep := func(bounds []api.Span, e api.Errno) {
		all = append(all, bounds...)
		if e != api.OK {
			t.Fatal(s, guard, e)
		}
	}
	one := func(bounds api.Span, e api.Errno) { keep(trial.List(bounds), e) }
	keep(round.Bounds(s, guard))
	keep(round.Figures(s, guard))
	one(round.Total(s, guard))
	one(round.Adds(s, guard))
	one(round.Differs(s, guard))
	return all
}

// isWider tells whether some bounds are not within other ones.
func isWider(bounds, than api.Span) bool { return bounds.Low < than.Low || bounds.High > than.High }

// P4.8: with more guard figures no bounds are wider.
func TestMoreGuards(t *testing.T) {
	sheets(t, 2000, func(t *testing.T, _ *dice, s api.RoundSheet) {
		before := boundsOf(t, s, 0)
		for guard := range s.Errs {
			now := boundsOf(t, s, guard)
			for i := range now {
				if isWider(now[i], before[i]) {
					t.Fatal(s, guard, now, before)
				}
			}
			before = now
		}
	})
}

// P4.8: nor are those of exact numbers behind figures.
func TestMoreGuardsBehind(t *testing.T) {
	truths(t, 200, func(t *testing.T, s api.RoundSheet, guard int, all []truth) {
		for i := 0; i < len(all) && guard > 0; i += 1 + len(all)/10 {
			more, e := round.Behind(s, guard, all[i].figures, all[i].total)
			fewer, f := round.Behind(s, guard-1, all[i].figures, all[i].total)
			if e != api.OK || f != api.OK {
				t.Fatal(s, guard, all[i], e, f)
			}
			for row := range more {
				if isWider(more[row], fewer[row]) {
					t.Fatal(s, guard, all[i], more, fewer)
				}
			}
		}
	})
}

// otherSign returns a sheet with all numbers taken with the other sign, and up in place of down.
func otherSign(s api.RoundSheet) api.RoundSheet {
	s.Rows = slices.Clone(s.Rows)
	for row := range s.Rows {
		s.Rows[row] = -s.Rows[row]
	}
	switch s.Rule {
	case down:
		s.Rule = up
	case up:
		s.Rule = down
	}
	return s
}

// hasHalf tells whether a number in some truth, or the sum of all numbers, is halfway between two numbers of units.
func hasHalf(s api.RoundSheet, guard int) bool {
	for _, x := range truthsOf(s, guard) {
		sum := 0
		for _, n := range x.exact {
			sum += n
		}
		if slices.ContainsFunc(append(list(sum), x.exact...), func(n int) bool { return 2*trial.Distance(n, 0)%(2*s.Unit) == s.Unit }) {
			return true
		}
	}
	return false
}

// P4.8: all figures have the other sign, too. (By the near rule halves are not, as it makes the greater one of two as near.)
func TestOtherSign(t *testing.T) {
	sheets(t, 600, func(t *testing.T, _ *dice, s api.RoundSheet) {
		for guard := range s.Errs {
			if s.Rule == near && hasHalf(s, guard) {
				continue
			}
			here, there := boundsOf(t, s, guard), boundsOf(t, otherSign(s), guard)
			for i := range here {
				if here[i] != span(-there[i].High, -there[i].Low) {
					t.Fatal(s, guard, here, there)
				}
			}
		}
	})
}

// P4.8, and that of two as near the greater one is meant
func TestOtherSignOfValues(t *testing.T) {
	for unit := 1; unit <= 30; unit++ {
		for value := range 4 * unit {
			for rule, other := range map[api.RoundRule]api.RoundRule{down: up, up: down, near: near, even: even} {
				here, e := round.To(value, unit, rule)
				there, f := round.To(-value, unit, other)
				if rule == near && 2*value%(2*unit) == unit {
					there--
				}
				if e != api.OK || f != api.OK || here != -there {
					t.Fatal(value, unit, rule, here, there, e, f)
				}
			}
		}
	}
}

// results calls each function that has a list among its results, and returns these lists.
func results(s api.RoundSheet, figures []int) ([][]int, [][]api.Span, string) {
	var numbers [][]int
	var bounds [][]api.Span
	keep := func(n []int, _ api.Errno) { numbers = append(numbers, n) }
	keepBounds := func(b []api.Span, _ api.Errno) { bounds = append(bounds, b) }
	keep(round.Sure(s, 0))
	keep(round.Proof(s, 0))
	keepBounds(round.Bounds(s, 0))
	keepBounds(round.Figures(s, 0))
	keepBounds(round.Behind(s, 0, figures, 4))
	text, _ := round.Print(s)
	read, _ := round.Read(text)
	keep(read.Errs, api.OK)
	keep(read.Rows, api.OK)
	return numbers, bounds, text + fmt.Sprintln(round.Need(s, 0)) + fmt.Sprintln(round.Guards(s)) + fmt.Sprintln(round.Total(s, 0)) + fmt.Sprintln(round.Adds(s, 0)) + fmt.Sprintln(round.Differs(s, 0)) + fmt.Sprintln(round.First(s, 0)) + fmt.Sprintln(round.Word(s, 0, 0, 1))
}

// R4 and R8: arguments are not changed, results share no memory, and equal calls have equal results.
func TestMemory(t *testing.T) {
	s := sheet(10, near, trial.WithRoom(4, 1), trial.WithRoom(13, 26, 1)...)
	figures := trial.WithRoom(1, 3, 0)
	numbers, bounds, text := results(s, figures)
	first := fmt.Sprint(numbers, bounds, text)
	if trial.Share(numbers, func(n *int) { *n += 5 }) || trial.Share(bounds, func(b *api.Span) { b.Low += 5 }) {
		t.Error("results share memory")
	}
	if !trial.IsUntouched(s.Errs, 4, 1) || !trial.IsUntouched(s.Rows, 13, 26, 1) || !trial.IsUntouched(figures, 1, 3, 0) {
		t.Error("an argument was changed", s, figures)
	}
	numbers, bounds, text = results(s, figures)
	if again := fmt.Sprint(numbers, bounds, text); again != first {
		t.Error(first, again)
	}
}

// R3: nil and empty lists are the same value.
func TestEmptyLists(t *testing.T) {
	for _, none := range [][]int{nil, {}} {
		for _, s := range trial.List(sheet(1, down, none, 0), sheet(1, down, list(0), none...), sheet(1, down, none, none...)) {
			if e := round.Check(s); e != api.ErrArg {
				t.Error(e)
			}
			refused(t, callsOf(s, 0, 0, 0), s)
		}
		if got, e := round.Behind(sheetA(), 0, none, 0); got != nil || e != api.ErrArg {
			t.Error(got, e)
		}
	}
}

// P0.12: no arguments make a function panic, and whatever comes with an error is zero.
func TestAnyArguments(t *testing.T) {
	d := &dice{trial.Dice{State: 5}}
	odd := list(least, most, -1<<40, 1<<40, -100001, -100000, 100000, 100001, 1000, 1001, 9, 8, 6, 5, 4, 3, 2, 1, 0, -1)
	one := func() int { return trial.Of(&d.Dice, odd) }
	for range 4000 {
		s := d.sheet()
		switch d.From(0, 5) {
		case 0:
			s.Unit = one()
		case 1:
			s.Rule = api.RoundRule(one())
		case 2:
			*trial.Of(&d.Dice, trial.List(&s.Errs[0], &s.Rows[0])) = one()
		case 3:
			s = sheet(one(), api.RoundRule(d.From(1, 4)), d.errs(d.From(0, 9)))
			for range d.From(0, 6) {
				s.Rows = append(s.Rows, one())
			}
		}
		for name, call := range callsOf(s, trial.Of(&d.Dice, list(0, one())), one(), one()) {
			zero, e := call()
			if e != api.OK && !zero || e == api.OK && round.Check(s) != api.OK {
				t.Fatal(name, s, zero, e)
			}
		}
		if n, e := round.To(one(), one(), api.RoundRule(one())); e != api.OK && n != 0 {
			t.Fatal(n, e)
		}
	}
}
