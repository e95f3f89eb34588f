package give_test

import (
	"slices"
	"testing"

	"ephemerist/api"
	"ephemerist/give"
	"ephemerist/trial"
)

// slow is a book in which all have one number of days each.
func slow() api.GiveBook {
	return api.GiveBook{Computers: computers(computer(0, 1, 1, 2, 2, 3, 3), computer(1, 2, 2, 1, 1, 3, 3), computer(2, 0, 0, 5, 5, 1, 1), computer(0, 5, 5, 1, 1, 2, 2)), Dues: list(20, 25), Sheets: list(1, 0, 1)}
}

// slowest returns the one truth of slow.
func slowest() api.GiveTruth {
	return api.GiveTruth{Post: list(1, 2, 0, 5), Sheet: list(2, 1, 5, 1), Look: list(3, 3, 1, 2)}
}

// P6.2
func TestWhen(t *testing.T) {
	truth := func(post, sheet, look []int) api.GiveTruth {
		return api.GiveTruth{Post: post, Sheet: sheet, Look: look}
	}
	for i, x := range []struct {
		b    api.GiveBook
		plan []api.GiveTask
		t    api.GiveTruth
		want []int
	}{
		{bookA(), planP(), truthT(), list(6, 6)}, {bookA(), planP(), truth(list(1, 0, 0), list(2, 1, 3), list(1, 1, 1)), list(5, 6)}, {bookA(), planP(), truth(list(2, 1, 0), list(3, 2, 3), list(1, 2, 1)), list(8, 11)}, {bookA(), planR(), truth(list(1, 1, 0), list(2, 1, 3), list(1, 1, 1)), list(6, 5)},
		// home on the days 4, 6 and 8 from 0, 5, 6 and 7 from 1; the third one has three days for each, one after the other
		{slow(), plan(0, 1, 2, 0, 1, 2, 0, 1, 2), slowest(), list(6, 7, 9)}, {slow(), plan(0, 1, 3, 0, 1, 3, 0, 1, 3), slowest(), list(17, 19, 21)},
		// the second one waits for the first one, though it is there sooner; the third one is not kept by its own sheets
		{slow(), plan(1, 2, 0, 1, 3, 0, 0, 2, 1), slowest(), list(10, 16, 17)}, {slow(), plan(2, 3, 0, 1, 3, 0, 1, 3, 0), slowest(), list(16, 19, 22)},
		// as many sheets as the hand has, not as many as there are
		{slow(), plan(0, 1, 2, 1, 3, 2, 0, 2, 1), slowest(), list(6, 12, 13)},
	} {
		if got, e := give.When(x.b, x.plan, x.t); e != api.OK || !slices.Equal(got, x.want) {
			t.Error(i, got, e)
		}
	}
}

// P6.2: what is no truth is refused, before a plan that is not good.
func TestBadTruths(t *testing.T) {
	for _, part := range trial.List(0, 1, 2) {
		for _, numbers := range [][]int{nil, {}, {1}, {1, 0}, {1, 0, 0, 0}, {0, 0, 0}, {3, 0, 0}, {1, -1, 0}, {1, 3, 0}, {1, 1, 4}, {3, 1, 2}, {most, 1, 1}, {1, 1, least}, make([]int, 1000)} {
			truth := truthT()
			*trial.List(&truth.Post, &truth.Sheet, &truth.Look)[part] = numbers
			for _, p := range trial.List(planP(), plan(0, 2, 1, 9, 9, 9)) {
				if got, e := give.When(bookA(), p, truth); e != api.ErrArg || got != nil {
					t.Error(part, numbers, p, got, e)
				}
			}
		}
	}
}

// P6.2
func TestDaysOfTruths(t *testing.T) {
	planned(t, 6000, most, func(t *testing.T, d *dice, b api.GiveBook, p []api.GiveTask) {
		truth := d.truth(b)
		want := played(p, truth, nil)
		if got, e := give.When(b, p, truth); e != api.OK || !slices.Equal(got, want) {
			t.Fatal(b, p, truth, got, e, want)
		}
	})
}

// known is all that is told of a plan.
type known struct {
	back              []api.Span
	tables            []api.GiveWord
	table, sheet, day int
	proof             api.Errno
}

// knownOf returns what all truths tell of a plan.
func knownOf(b api.GiveBook, p []api.GiveTask) known {
	truths := truthsOf(b)
	back, proof := playedAll(p, truths, nil), api.ErrNone
	k := known{back: back, proof: proof, tables: make([]api.GiveWord, len(b.Dues))}
	for table, due := range b.Dues {
		done := 0
		for _, truth := range truths {
			if tablesOf(b, played(p, truth, nil))[table] <= due {
				done++
			}
		}
		switch done {
		case 0:
			k.tables[table] = never
		case len(truths):
			k.tables[table] = surely
		default:
			k.tables[table] = may
		}
		for sheet, s := range back {
			if k.proof == api.ErrNone && b.Sheets[sheet] == table && s.High > due {
				k.table, k.sheet, k.day, k.proof = table, sheet, s.High, api.OK
			}
		}
	}
	return k
}

// playedAll returns the first and the last day on which each sheet is back in some truths.
func playedAll(p []api.GiveTask, truths []api.GiveTruth, lost map[int][]int) []api.Span {
	var back []api.Span
	for i, truth := range truths {
		for sheet, day := range played(p, truth, lost) {
			if i == 0 {
				back = append(back, span(day, day))
			}
			back[sheet] = span(min(back[sheet].Low, day), max(back[sheet].High, day))
		}
	}
	return back
}

func sameKnown(t *testing.T, b api.GiveBook, p []api.GiveTask, want known) {
	t.Helper()
	if got, e := give.Back(b, p); e != api.OK || !slices.Equal(got, want.back) {
		t.Error("Back", b, p, got, e, want.back)
	}
	if got, e := give.Tables(b, p); e != api.OK || !slices.Equal(got, want.tables) {
		t.Error("Tables", b, p, got, e, want.tables)
	}
	if table, sheet, day, e := give.Proof(b, p); e != want.proof || table != want.table || sheet != want.sheet || day != want.day {
		t.Error("Proof", b, p, table, sheet, day, e, want)
	}
}

// P6.2, P6.3
func TestBack(t *testing.T) {
	words := func(w ...api.GiveWord) []api.GiveWord { return w }
	backP, backR := spans(span(5, 8), span(6, 11)), spans(span(6, 9), span(5, 8))
	none, ok := api.ErrNone, api.OK
	for _, x := range []struct {
		b    api.GiveBook
		plan []api.GiveTask
		want known
	}{
		{bookA(), planP(), known{backP, words(surely, may), 1, 1, 11, ok}}, {bookA(), planR(), known{backR, words(surely, surely), 0, 0, 0, none}},
		// due on the last day, one before it, on the first day, and one before it
		{withDues(bookA(), 8, 11), planP(), known{backP, words(surely, surely), 0, 0, 0, none}}, {withDues(bookA(), 7, 10), planP(), known{backP, words(may, may), 0, 0, 8, ok}}, {withDues(bookA(), 5, 6), planP(), known{backP, words(may, may), 0, 0, 8, ok}}, {withDues(bookA(), 4, 5), planP(), known{backP, words(never, never), 0, 0, 8, ok}}, {withDues(bookA(), 99, 0), planP(), known{backP, words(surely, never), 1, 1, 11, ok}},
		// a table with all sheets, and one with none
		{withSheets(withDues(bookA(), 0, 9), 1, 1), planR(), known{backR, words(surely, surely), 0, 0, 0, none}}, {withSheets(withDues(bookA(), 0, 8), 1, 1), planR(), known{backR, words(surely, may), 1, 0, 9, ok}}, {withSheets(withDues(bookA(), 5), 0, 0), planP(), known{backP, words(never), 0, 0, 8, ok}}, {withSheets(withDues(bookA(), 8), 0, 0), planP(), known{backP, words(may), 0, 1, 11, ok}},
		// the first table, not the first sheet; the first sheet, not the last day
		{withSheets(withDues(bookA(), 1, 1), 1, 0), planP(), known{backP, words(never, never), 0, 1, 11, ok}}, {withSheets(withDues(bookA(), 1, 1), 1, 1), planR(), known{backR, words(surely, never), 1, 0, 9, ok}},
		{slow(), plan(1, 2, 0, 1, 3, 0, 0, 2, 1), known{spans(span(10, 10), span(16, 16), span(17, 17)), words(surely, surely), 0, 0, 0, none}}, {withDues(slow(), 15, 17), plan(1, 2, 0, 1, 3, 0, 0, 2, 1), known{spans(span(10, 10), span(16, 16), span(17, 17)), words(never, surely), 0, 1, 16, ok}},
		// as long as can be: the table is back long before the last day there is
		{withRooms(longest(), 0, 1), plan(0, 1, 2, 0, 1, 2, 0, 1, 2), known{spans(span(28, 28), span(33, 33), span(38, 38)), words(surely, surely), 0, 0, 0, none}},
	} {
		sameKnown(t, x.b, x.plan, x.want)
	}
}

// P6.2, P6.3: all results are those of all truths.
func TestBackInAllTruths(t *testing.T) {
	planned(t, 2500, 60, func(t *testing.T, d *dice, b api.GiveBook, p []api.GiveTask) { sameKnown(t, b, p, knownOf(b, p)) })
}

// P6.2, P6.3: also with more truths than can be written out, whatever truth somebody proposes.
func TestProposedTruths(t *testing.T) {
	planned(t, 3000, most, func(t *testing.T, d *dice, b api.GiveBook, p []api.GiveTask) {
		back, e := give.Back(b, p)
		tables, f := give.Tables(b, p)
		late, sheet, day, g := give.Proof(b, p)
		if e != api.OK || f != api.OK || (g == api.ErrNone) == slices.ContainsFunc(tables, func(w api.GiveWord) bool { return w != surely }) {
			t.Fatal(b, p, back, tables, e, f, g)
		}
		if g == api.OK && (tables[late] == surely || slices.ContainsFunc(tables[:late], func(w api.GiveWord) bool { return w != surely }) || b.Sheets[sheet] != late || back[sheet].High != day || day <= b.Dues[late]) {
			t.Fatal(b, p, late, sheet, day)
		}
		for range 20 {
			truth := d.truth(b)
			days, e := give.When(b, p, truth)
			for sheet, s := range back {
				if e != api.OK || days[sheet] < s.Low || days[sheet] > s.High {
					t.Fatal(b, p, truth, days, back)
				}
			}
			for table, day := range tablesOf(b, days) {
				if tables[table] == surely && day > b.Dues[table] || tables[table] == never && day <= b.Dues[table] {
					t.Fatal(b, p, truth, table, day, tables)
				}
			}
		}
	})
}

// P6.4
func TestIdle(t *testing.T) {
	four := withMore(bookA(), 2)
	for i, x := range []struct {
		b    api.GiveBook
		plan []api.GiveTask
		want []int
	}{
		{bookA(), planP(), nil}, {four, planP(), list(3)}, {four, plan(1, 3, 2, 1, 3, 2), list(0)}, {four, plan(1, 3, 2, 1, 2, 3), list(0)}, {four, plan(0, 1, 2, 0, 1, 3), nil}, {slow(), plan(1, 2, 3, 1, 2, 3, 1, 2, 3), list(0)}, {slow(), plan(0, 2, 3, 0, 2, 3, 2, 3, 0), list(1)}, {withSheets(slow(), 0), plan(0, 1, 3), list(2)},
	} {
		if got, e := give.Idle(x.b, x.plan); e != api.OK || !slices.Equal(got, x.want) {
			t.Error(i, got, e)
		}
	}
	planned(t, 1000, most, func(t *testing.T, _ *dice, b api.GiveBook, p []api.GiveTask) {
		var want []int
		for c := range b.Computers {
			if len(sheetsOf(p, func(task api.GiveTask) bool { return slices.Contains(list(task.One, task.Other, task.Third), c) })) == 0 {
				want = append(want, c)
			}
		}
		if got, e := give.Idle(b, p); e != api.OK || !slices.Equal(got, want) {
			t.Fatal(b, p, got, e, want)
		}
	})
}

// P6.4
func TestLost(t *testing.T) {
	thrice := plan(0, 1, 2, 0, 1, 2, 0, 1, 2)
	days := func(n ...int) []api.Span {
		var out []api.Span
		for _, day := range n {
			out = append(out, span(day, day))
		}
		return out
	}
	for i, x := range []struct {
		b               api.GiveBook
		plan            []api.GiveTask
		sheet, computer int
		want            []api.Span
		e               api.Errno
	}{
		{bookA(), planR(), 0, 1, spans(span(6, 13), span(5, 8)), api.OK}, {bookA(), planR(), 0, 2, spans(span(9, 11), span(5, 8)), api.OK}, {bookA(), planR(), 1, 0, spans(span(6, 9), span(7, 11)), api.OK},
		{bookA(), planR(), 0, 0, nil, api.ErrRule}, {bookA(), planR(), 1, 2, nil, api.ErrRule}, {bookA(), planR(), 2, 0, nil, api.ErrArg}, {bookA(), planR(), -1, 0, nil, api.ErrArg}, {bookA(), planR(), 0, 3, nil, api.ErrArg}, {bookA(), planR(), 0, -1, nil, api.ErrArg}, {bookA(), planR(), most, 0, nil, api.ErrArg}, {bookA(), planR(), 0, least, nil, api.ErrArg},
		// a number that there is not comes before a plan that is not good
		{bookA(), plan(0, 2, 1, 0, 2, 1), 0, 3, nil, api.ErrArg}, {bookA(), plan(0, 2, 1, 0, 2, 1), 2, 0, nil, api.ErrArg}, {bookA(), plan(0, 2, 1, 0, 2, 1), 0, 0, nil, api.ErrRule},
		// after all other ones of the hand, and each one that the third one compares after it waits
		{slow(), thrice, 0, 0, days(11, 12, 13), api.OK}, {slow(), thrice, 1, 0, days(6, 11, 12), api.OK}, {slow(), thrice, 2, 0, days(6, 7, 11), api.OK}, {slow(), thrice, 0, 1, days(9, 10, 11), api.OK}, {slow(), thrice, 2, 1, days(6, 7, 9), api.OK},
	} {
		if got, e := give.Lost(x.b, x.plan, x.sheet, x.computer); e != x.e || !slices.Equal(got, x.want) {
			t.Error(i, got, e)
		}
	}
}

// P6.4: in all truths, and never before.
func TestLostInAllTruths(t *testing.T) {
	planned(t, 800, 40, func(t *testing.T, d *dice, b api.GiveBook, p []api.GiveTask) {
		truths := truthsOf(b)
		back, _ := give.Back(b, p)
		for sheet, task := range p {
			for _, hand := range list(task.One, task.Other) {
				want := playedAll(p, truths, map[int][]int{hand: list(sheet)})
				got, e := give.Lost(b, p, sheet, hand)
				if e != api.OK || !slices.Equal(got, want) {
					t.Fatal(b, p, sheet, hand, got, e, want)
				}
				for i, s := range got {
					if s.Low < back[i].Low || s.High < back[i].High {
						t.Fatal(b, p, sheet, hand, got, back)
					}
				}
			}
			if got, e := give.Lost(b, p, sheet, task.Third); e != api.ErrRule || got != nil {
				t.Fatal(b, p, sheet, task, got, e)
			}
		}
	})
}
