package give_test

import (
	"slices"
	"testing"

	"ephemerist/api"
	"ephemerist/give"
	"ephemerist/trial"
)

// listed is all that is told of the plans of a book.
type listed struct {
	first []api.GiveTask
	count int
	who   [][]int
	best  []api.GiveTask
	day   int
}

// listedOf returns what all plans tell, each in all truths.
func listedOf(b api.GiveBook) listed {
	truths := truthsOf(b)
	l := listed{who: make([][]int, len(b.Sheets))}
	for i, p := range plansOf(b) {
		sure, day := true, 0
		for _, truth := range truths {
			days := played(p, truth, nil)
			sure, day = sure && isDone(b, days), max(day, slices.Max(days))
		}
		if i == 0 || day < l.day {
			l.best, l.day = p, day
		}
		if !sure {
			continue
		}
		if l.count == 0 {
			l.first = p
		}
		l.count++
		for sheet, task := range p {
			l.who[sheet] = append(l.who[sheet], task.One, task.Other)
		}
	}
	for sheet := range l.who {
		slices.Sort(l.who[sheet])
		l.who[sheet] = slices.Compact(l.who[sheet])
	}
	return l
}

// errorFor returns the error of what there is not without some plan.
func errorFor(p []api.GiveTask) api.Errno {
	if p == nil {
		return api.ErrNone
	}
	return api.OK
}

func sameListed(t *testing.T, b api.GiveBook, want listed) {
	t.Helper()
	if got, e := give.First(b); e != errorFor(want.first) || !slices.Equal(got, want.first) {
		t.Error("First", b, got, e, want.first)
	}
	if got, e := give.Count(b); e != api.OK || got != want.count {
		t.Error("Count", b, got, e, want.count)
	}
	if got, day, e := give.Best(b); e != errorFor(want.best) || !slices.Equal(got, want.best) || day != want.day {
		t.Error("Best", b, got, day, e, want.best, want.day)
	}
	for sheet, hands := range want.who {
		if got, e := give.Who(b, sheet); e != api.OK || !slices.Equal(got, hands) {
			t.Error("Who", b, sheet, got, e, hands)
		}
	}
}

// P6.5, P6.6
func TestPlans(t *testing.T) {
	r, q := planR(), plan(0, 1, 2, 0, 1, 2)
	all, none := [][]int{{0, 1, 2}, {0, 1, 2}}, [][]int{nil, nil}
	for _, x := range []struct {
		b    api.GiveBook
		want listed
	}{
		{bookA(), listed{r, 1, [][]int{{1, 2}, {0, 1}}, r, 9}}, {withDues(bookA(), 99, 99), listed{q, 4, all, r, 9}}, {withDues(bookA(), 9, 8), listed{r, 1, [][]int{{1, 2}, {0, 1}}, r, 9}}, {withDues(bookA(), 8, 8), listed{nil, 0, none, r, 9}}, {withDues(bookA(), 9, 7), listed{nil, 0, none, r, 9}},
		// without a good plan: all in one room, or not three computers
		{withRooms(bookA(), 0, 0, 0), listed{who: none}}, {withDues(withRooms(bookA(), 2, 2, 2), 99, 99), listed{who: none}}, {bookOfText(), listed{who: [][]int{nil}}}, {withComputers(bookA(), bookA().Computers[:2]...), listed{who: none}}, {longest(), listed{who: [][]int{nil, nil, nil}}},
		// as many plans as there can be, of which the first one is not the best one
		{withRooms(longest(), 0, 1, 2), listed{plan(0, 1, 2, 0, 1, 2, 0, 1, 2), 1000, [][]int{{0, 1, 2, 3}, {0, 1, 2, 3}, {0, 1, 2, 3}}, plan(0, 1, 2, 0, 2, 1, 1, 2, 0), 33}},
		// a table without sheets is back on the day 0
		{withSheets(withDues(bookA(), 0, 11), 1, 1), listed{q, 4, all, r, 9}}, {withSheets(withDues(bookA(), 0, 10), 1, 1), listed{r, 1, [][]int{{1, 2}, {0, 1}}, r, 9}},
	} {
		sameListed(t, x.b, x.want)
	}
}

// P6.5, P6.6, P0.6: all results are those of all plans and all truths.
func TestAllPlans(t *testing.T) {
	books(t, 400, 8, func(t *testing.T, _ *dice, b api.GiveBook) {
		if len(b.Computers)+len(b.Sheets) < 7 {
			sameListed(t, b, listedOf(b))
		}
	})
	d := &dice{}
	for range 12 {
		b := d.narrow(d.bookWith(4, 3), 4)
		sameListed(t, b, listedOf(b))
	}
}

// P6.5, P6.6: also with more truths than can be written out, whatever plan somebody proposes.
func TestProposedPlans(t *testing.T) {
	planned(t, 150, most, func(t *testing.T, d *dice, b api.GiveBook, _ []api.GiveTask) {
		first, e := give.First(b)
		best, day, f := give.Best(b)
		count, _ := give.Count(b)
		if (count > 0) != (e == api.OK) || f != api.OK || e == api.OK && !isSure(t, b, first) || lastDay(t, b, best) != day {
			t.Fatal(b, first, count, best, day, e, f)
		}
		var who [][]int
		for sheet := range b.Sheets {
			hands, _ := give.Who(b, sheet)
			who = append(who, hands)
		}
		for range 100 {
			p, _ := d.plan(b)
			sure, last := isSure(t, b, p), lastDay(t, b, p)
			if sure && (e != api.OK || comesBefore(p, first)) || last < day || last == day && comesBefore(p, best) {
				t.Fatal(b, p, sure, last, first, best, day)
			}
			for sheet, task := range p {
				if sure && (!slices.Contains(who[sheet], task.One) || !slices.Contains(who[sheet], task.Other)) {
					t.Fatal(b, p, sheet, who)
				}
			}
		}
	})
}

func isSure(t *testing.T, b api.GiveBook, p []api.GiveTask) bool {
	t.Helper()
	words, e := give.Tables(b, p)
	if e != api.OK {
		t.Fatal(b, p, e)
	}
	return !slices.ContainsFunc(words, func(w api.GiveWord) bool { return w != surely })
}

// lastDay returns the last day on which a sheet is back.
func lastDay(t *testing.T, b api.GiveBook, p []api.GiveTask) int {
	t.Helper()
	back, e := give.Back(b, p)
	if e != api.OK {
		t.Fatal(b, p, e)
	}
	last := 0
	for _, s := range back {
		last = max(last, s.High)
	}
	return last
}

// P6.5
func TestWhoErrors(t *testing.T) {
	for _, b := range trial.List(bookA(), withRooms(bookA(), 0, 0, 0), bookOfText(), longest()) {
		for _, sheet := range list(-1, len(b.Sheets), 3, most, least) {
			if got, e := give.Who(b, sheet); e != api.ErrArg || got != nil {
				t.Error(b, sheet, got, e)
			}
		}
	}
}

// P6.6
func TestMore(t *testing.T) {
	for i, x := range []struct {
		b    api.GiveBook
		like int
		want int
		e    api.Errno
	}{
		{bookA(), 0, 9, api.OK}, {bookA(), 1, 8, api.OK}, {bookA(), 2, 7, api.OK},
		// there is a good plan only with the computer more, or not even then
		{withComputers(bookA(), bookA().Computers[:2]...), 0, 12, api.OK}, {withRooms(bookA(), 0, 0, 0), 0, 0, api.ErrNone}, {bookOfText(), 0, 0, api.ErrNone}, {withRooms(withComputers(bookA(), bookA().Computers[:2]...), 1), 1, 0, api.ErrNone},
		{bookA(), 3, 0, api.ErrArg}, {bookA(), -1, 0, api.ErrArg}, {bookA(), most, 0, api.ErrArg}, {bookA(), least, 0, api.ErrArg}, {api.GiveBook{}, 0, 0, api.ErrArg},
		// ErrArg comes before ErrLong, and ErrLong before ErrNone
		{longest(), 4, 0, api.ErrArg}, {longest(), -1, 0, api.ErrArg}, {longest(), 0, 0, api.ErrLong}, {longest(), 3, 0, api.ErrLong}, {withMore(bookA(), 2), 0, 0, api.ErrLong},
	} {
		if got, e := give.More(x.b, x.like); e != x.e || got != x.want {
			t.Error(i, got, e)
		}
	}
}

// P6.6: it is the day of Best, and with one computer more it never takes longer.
func TestMoreOfBooks(t *testing.T) {
	d := &dice{}
	for range 400 {
		b := d.bookWith(d.From(1, 3), d.From(1, 3))
		_, before, e := give.Best(b)
		for like := range b.Computers {
			_, day, f := give.Best(withMore(b, like))
			got, g := give.More(b, like)
			if g != f || got != day || e == api.OK && (g != api.OK || got > before) {
				t.Fatal(b, like, got, g, day, f, before, e)
			}
		}
	}
}
