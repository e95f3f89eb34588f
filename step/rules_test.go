package step_test

import (
	"fmt"
	"slices"
	"testing"

	"ephemerist/api"
	"ephemerist/step"
	"ephemerist/trial"
)

// noWorse fails if a kept list that surely was right with a table is not with another one, or if more must be kept.
func noWorse(t *testing.T, d *dice, before, now api.StepTable) {
	t.Helper()
	for range 5 {
		kept := d.kept(before)
		was, e := step.Word(before, kept)
		is, f := step.Word(now, kept)
		if e != api.OK || f != api.OK || was == surely && is != surely {
			t.Fatal("Word", before, now, kept, was, is, e, f)
		}
	}
	had, e := step.Must(before)
	has, f := step.Must(now)
	if e != api.OK || f != api.OK || slices.ContainsFunc(has, func(row int) bool { return !slices.Contains(had, row) }) {
		t.Fatal("Must", before, now, had, has, e, f)
	}
	many, _ := step.Fewest(before)
	few, _ := step.Fewest(now)
	wide, _ := step.Widest(before)
	wider, _ := step.Widest(now)
	if len(few) > len(many) || wider < wide {
		t.Fatal(before, now, many, few, wide, wider)
	}
}

// P5.9
func TestGreaterOff(t *testing.T) {
	d := &dice{}
	for range 1500 {
		x := d.widest()
		noWorse(t, d, x, withOff(x, d.From(x.Off, min(x.Off+d.From(0, 10), api.StepOff))))
	}
}

// P5.9
func TestNarrowerSpans(t *testing.T) {
	d := &dice{}
	for range 1500 {
		x := d.widest()
		narrow := withValues(x)
		for _, v := range x.Values {
			low := d.From(v.Low, v.High)
			narrow.Values = append(narrow.Values, trial.Of(&d.Dice, trial.List(v, span(low, v.High), span(low, d.From(low, v.High)))))
		}
		noWorse(t, d, x, narrow)
	}
}

// P5.4: the kept list surely is right with the Off that is returned, or a greater one, and with no other one.
func TestLeastOff(t *testing.T) {
	d := &dice{}
	for range 1500 {
		x := d.widest()
		kept := d.kept(x)
		off, e := step.Least(x, kept)
		for _, other := range list(0, off-1, off, off+1, x.Off, api.StepOff) {
			if other < 0 || other > api.StepOff {
				continue
			}
			if word, f := step.Word(withOff(x, other), kept); e != api.OK || f != api.OK || (word == surely) != (other >= off) {
				t.Fatal(x, kept, off, other, word, e, f)
			}
		}
	}
}

// P5.9: of numbers that grow evenly the first and the last are enough.
func TestEvenTables(t *testing.T) {
	d := &dice{}
	for range 1000 {
		rows, by := d.From(2, api.StepRows), d.From(-700, 700)
		first := d.From(-1500, 1500)
		var numbers []int
		for row := range rows {
			numbers = append(numbers, first+row*by)
		}
		x, ends := table(d.rule(), 0, numbers...), list(0, rows-1)
		sameListed(t, x, listed{rows - 1, ends, 1, ends})
		sameKnown(t, x, ends, known{word: surely})
		if got, e := step.Figures(x, ends, numbers); e != api.OK || !slices.Equal(got, numbers) {
			t.Fatal(x, got, e)
		}
	}
}

// results calls each function that has a list among its results, and returns these lists, and all else as a text.
func results(x api.StepTable, kept, truth []int) ([][]int, [][]api.Span, string) {
	var numbers [][]int
	keep := func(n []int, _ api.Errno) { numbers = append(numbers, n) }
	keep(step.Figures(x, kept, truth))
	keep(step.Parts(10, 4, near))
	keep(step.Doubts(x, kept))
	keep(step.Proof(x, kept))
	keep(step.Keep(x, 2))
	keep(step.Fewest(x))
	keep(step.Must(x))
	text, _ := step.Print(x)
	one, _ := step.Read(text)
	other, _ := step.Read(text)
	return numbers, trial.List(one.Values, other.Values), text + fmt.Sprintln(step.Right(x, kept, truth)) + fmt.Sprintln(step.Word(x, kept)) + fmt.Sprintln(step.Least(x, kept)) + fmt.Sprintln(step.Widest(x)) + fmt.Sprintln(step.Count(x)) + fmt.Sprintln(step.Add(x, kept))
}

// R4 and R8: arguments are not changed, results share no memory, and equal calls have equal results.
func TestMemory(t *testing.T) {
	for _, make := range trial.List(tableA, tableB) {
		x := make()
		x.Values = append(x.Values, span(5, 5))[:len(x.Values)]
		for _, rows := range trial.List(keptK(), list(0, 6), list(0, 1, 2, 3, 4, 5, 6)) {
			kept, truth := trial.WithRoom(rows...), trial.WithRoom(truthT()...)
			numbers, spans, text := results(x, kept, truth)
			first := fmt.Sprint(numbers, spans, text)
			if trial.Share(numbers, func(n *int) { *n += 5 }) || trial.Share(spans, func(s *api.Span) { s.Low += 5 }) {
				t.Error("results share memory", rows)
			}
			if !sameTable(x, make()) || x.Values[:len(x.Values)+1][len(x.Values)] != span(5, 5) || !trial.IsUntouched(kept, rows...) || !trial.IsUntouched(truth, truthT()...) {
				t.Error("an argument was changed", x, kept, truth)
			}
			numbers, spans, text = results(x, kept, truth)
			if again := fmt.Sprint(numbers, spans, text); again != first {
				t.Error(first, again)
			}
		}
	}
}

// R3: nil and empty lists are the same value.
func TestEmptyLists(t *testing.T) {
	for _, none := range [][]int{nil, {}} {
		refused(t, keptCallsOf(tableA(), none, truthT()), none)
		refused(t, keptCallsOf(tableA(), none, none), none)
		refused(t, callsOf(withValues(tableA(), []api.Span{}...), none, none, 1), none)
		refused(t, callsOf(api.StepTable{Rule: near, Values: []api.Span{}}, none, none, 1), none)
		if got, e := step.Figures(tableA(), keptK(), none); e != api.ErrArg || got != nil {
			t.Error(got, e)
		}
	}
}

// P0.12: no arguments make a function panic, and whatever comes with an error is zero.
func TestAnyArguments(t *testing.T) {
	d := &dice{trial.Dice{State: 5}}
	odd := list(least, most, -20000, 20000, -10000, 10000, -9999, 9999, 101, 100, 14, 13, 12, 6, 5, 4, 3, 2, 1, 0, -1)
	one := func() int { return trial.Of(&d.Dice, odd) }
	for range 4000 {
		x := d.tableWith(d.From(2, api.StepRows), 1000)
		kept, truth := d.kept(x), d.truth(x)
		switch d.From(0, 7) {
		case 0:
			x.Off = one()
		case 1:
			x.Rule = api.RoundRule(one())
		case 2:
			x.Values[d.From(0, len(x.Values)-1)] = span(one(), one())
		case 3:
			x = wide(api.RoundRule(d.From(0, 5)), one())
			for range d.From(0, 15) {
				x.Values = append(x.Values, span(one(), one()))
			}
		case 4:
			kept[d.From(0, len(kept)-1)] = one()
		case 5:
			truth[d.From(0, len(truth)-1)] = one()
		case 6:
			kept, truth = truth, kept
		}
		for name, call := range callsOf(x, kept, truth, one()) {
			zero, e := call()
			if e != api.OK && !zero || e == api.OK && step.Check(x) != api.OK {
				t.Fatal(name, x, kept, truth, zero, e)
			}
		}
		if parts, e := step.Parts(one(), one(), api.RoundRule(one())); e != api.OK && parts != nil {
			t.Fatal(parts, e)
		}
	}
}
