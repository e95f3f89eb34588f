package give_test

import (
	"slices"
	"testing"

	"ephemerist/api"
	"ephemerist/give"
	"ephemerist/trial"
)

// P6.1
func TestCheck(t *testing.T) {
	for i, b := range trial.List(
		bookA(), bookOfText(), longest(), withMore(bookA(), 0), withRooms(bookA(), 0, 0, 0), withRooms(bookA(), 2, 2, 2), withDues(bookA(), 0, 99), withDues(bookOfText(), 99), withDues(bookOfText(), 0, 0), withSheets(bookA(), 1, 1, 1), withSheets(bookA(), 0), withSheets(bookA(), 1),
		withComputers(bookA(), computer(2, 0, 5, 1, 5, 1, 3)), withComputers(bookA(), computer(0, 5, 5, 5, 5, 3, 3), computer(0, 0, 0, 1, 1, 1, 1)),
	) {
		if e := give.Check(b); e != api.OK {
			t.Error(i, e)
		}
	}
}

// P6.1 to P6.7, P0.12: each function refuses each book that is not as defined.
func TestBadBooks(t *testing.T) {
	for i, b := range badBooks() {
		if e := give.Check(b); e != api.ErrArg {
			t.Error(i, b, e)
		}
		many := len(b.Computers)
		truth := api.GiveTruth{Post: make([]int, many), Sheet: slices.Repeat(list(1), many), Look: slices.Repeat(list(1), many)}
		refused(t, callsOf(b, make([]api.GiveTask, len(b.Sheets)), truth, 0, 0), api.ErrArg, "book ", i)
	}
}

// P6.1
func TestWhy(t *testing.T) {
	four := withRooms(withMore(bookA(), 2), 0, 1, 2, 1)
	for i, x := range []struct {
		b     api.GiveBook
		plan  []api.GiveTask
		sheet int
		fault api.GiveFault
		e     api.Errno
	}{
		{bookA(), planP(), 0, 0, api.ErrNone}, {bookA(), planR(), 0, 0, api.ErrNone}, {bookA(), plan(0, 1, 2, 0, 2, 1), 1, api.GiveTogether, api.OK}, {bookA(), plan(0, 0, 1, 0, 1, 2), 0, api.GiveTwice, api.OK}, {bookA(), plan(1, 0, 2, 0, 1, 2), 0, api.GiveOrder, api.OK}, {bookA(), plan(0, 1, 3, 0, 1, 2), 0, api.GiveNobody, api.OK},
		// each of the three is nobody, or twice there
		{bookA(), plan(-1, 1, 2, 0, 1, 2), 0, api.GiveNobody, api.OK}, {bookA(), plan(0, 3, 2, 0, 1, 2), 0, api.GiveNobody, api.OK}, {bookA(), plan(0, 1, -1, 0, 1, 2), 0, api.GiveNobody, api.OK}, {bookA(), plan(0, 1, 2, most, 1, 2), 1, api.GiveNobody, api.OK}, {bookA(), plan(0, 1, 2, 0, 1, least), 1, api.GiveNobody, api.OK}, {bookA(), plan(0, 1, 2, 0, 1, 0), 1, api.GiveTwice, api.OK}, {bookA(), plan(0, 1, 2, 0, 1, 1), 1, api.GiveTwice, api.OK}, {bookA(), plan(0, 1, 2, 1, 1, 0), 1, api.GiveTwice, api.OK},
		// of several faults of a task the first one
		{bookA(), plan(3, 3, 3, 0, 1, 2), 0, api.GiveNobody, api.OK}, {bookA(), plan(3, 0, 2, 0, 1, 2), 0, api.GiveNobody, api.OK}, {bookA(), plan(0, 0, 0, 0, 1, 2), 0, api.GiveTwice, api.OK}, {bookA(), plan(2, 0, 2, 0, 1, 2), 0, api.GiveTwice, api.OK}, {bookA(), plan(2, 0, 1, 0, 1, 2), 0, api.GiveOrder, api.OK},
		// and of several tasks the first one
		{bookA(), plan(0, 2, 1, 0, 1, 3), 0, api.GiveTogether, api.OK}, {bookA(), plan(1, 0, 2, 0, 0, 0), 0, api.GiveOrder, api.OK},
		// only the hands do not sit together
		{four, plan(0, 2, 1, 2, 3, 1), 0, 0, api.ErrNone}, {four, plan(0, 1, 3, 1, 3, 0), 1, api.GiveTogether, api.OK}, {withRooms(bookA(), 1, 1, 1), planP(), 0, api.GiveTogether, api.OK}, {bookOfText(), plan(0, 0, 0), 0, api.GiveTwice, api.OK}, {bookOfText(), plan(0, 1, 2), 0, api.GiveNobody, api.OK},
	} {
		if sheet, fault, e := give.Why(x.b, x.plan); e != x.e || sheet != x.sheet || fault != x.fault {
			t.Error(i, sheet, fault, e)
		}
	}
}

// P6.1: each task of numbers around those of the computers.
func TestWhyOfAllTasks(t *testing.T) {
	books(t, 60, most, func(t *testing.T, d *dice, b api.GiveBook) {
		good, is := d.plan(b)
		wide := len(b.Computers) + 2
		for n := range wide * wide * wide {
			task := api.GiveTask{One: n/wide/wide - 1, Other: n/wide%wide - 1, Third: n%wide - 1}
			p, at := slices.Repeat(trial.List(task), len(b.Sheets)), 0
			if is {
				p, at = slices.Clone(good), d.From(0, len(good)-1)
				p[at] = task
			}
			want, f := faultOf(b, task), api.OK
			if want == 0 {
				at, f = 0, api.ErrNone
			}
			if sheet, fault, e := give.Why(b, p); e != f || sheet != at || fault != want {
				t.Fatal(b, p, sheet, fault, e, at, want)
			}
		}
	})
}

// P6.1, P0.6: by a good plan nobody checks a sheet of its own, and both hands do not sit together.
func TestGoodPlans(t *testing.T) {
	d := &dice{}
	good := 0
	for range 4000 {
		b := d.widest()
		var p []api.GiveTask
		for range b.Sheets {
			one := d.From(0, len(b.Computers)-1)
			p = append(p, plan(one, d.From(one, len(b.Computers)-1), d.From(0, len(b.Computers)-1))...)
		}
		if _, _, e := give.Why(b, p); e != api.ErrNone {
			continue
		}
		good++
		for _, task := range p {
			if task.Third == task.One || task.Third == task.Other || b.Computers[task.One].Room == b.Computers[task.Other].Room {
				t.Fatal(b, p)
			}
		}
	}
	if good < 100 {
		t.Error(good)
	}
}

// P6.1 to P6.4: a plan has as many tasks as the book has sheets.
func TestTasksOfSheets(t *testing.T) {
	three := plan(0, 1, 2, 1, 2, 0, 0, 1, 2)
	for i, x := range []struct {
		b     api.GiveBook
		tasks []api.GiveTask
	}{
		{bookA(), nil}, {bookA(), three[:1]}, {bookA(), three}, {bookA(), slices.Repeat(three, 300)}, {withSheets(bookA(), 0), nil}, {withSheets(bookA(), 0), three[:2]}, {withSheets(bookA(), 0, 0, 0), three[:2]}, {withSheets(bookA(), 0, 0, 0), slices.Repeat(three, 2)},
		// before a fault
		{bookA(), plan(9, 9, 9)}, {bookA(), plan(0, 2, 1, 0, 2, 1, 0, 2, 1)},
	} {
		calls := planCallsOf(x.b, x.tasks, truthT(), 0, 0)
		calls["Why"] = callsOf(x.b, x.tasks, truthT(), 0, 0)["Why"]
		refused(t, calls, api.ErrArg, i)
	}
}

// P6.2, P6.3, P6.4: a plan with a fault is refused.
func TestPlansThatAreNotGood(t *testing.T) {
	for _, p := range [][]api.GiveTask{plan(0, 1, 2, 0, 2, 1), plan(0, 0, 1, 0, 1, 2), plan(0, 1, 1, 0, 1, 2), plan(1, 0, 2, 0, 1, 2), plan(0, 1, 3, 0, 1, 2), plan(0, 1, 2, -1, 1, 2), plan(most, least, most, 0, 1, 2), plan(0, 1, 2, 0, 1, most)} {
		refused(t, planCallsOf(bookA(), p, truthT(), 0, 0), api.ErrRule, p)
		refused(t, planCallsOf(bookA(), p, truthT(), 1, 1), api.ErrRule, p)
	}
}
