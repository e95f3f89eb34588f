package give_test

import (
	"fmt"
	"slices"
	"testing"

	"ephemerist/api"
	"ephemerist/give"
	"ephemerist/trial"
)

// sooner returns a book in which something takes fewer days, or a table is due later.
func (d *dice) sooner(b api.GiveBook) api.GiveBook {
	b.Computers, b.Dues = slices.Clone(b.Computers), slices.Clone(b.Dues)
	fewer := func(s *api.Span, low int) {
		if d.From(0, 2) == 0 {
			s.Low = d.From(low, s.Low)
			s.High = d.From(s.Low, s.High)
		}
	}
	for i := range b.Computers {
		fewer(&b.Computers[i].Post, 0)
		fewer(&b.Computers[i].Sheet, 1)
		fewer(&b.Computers[i].Look, 1)
	}
	for i, due := range b.Dues {
		b.Dues[i] = d.From(due, min(due+d.From(0, 5), api.GiveLast))
	}
	return b
}

// P6.8: no sheet is back later.
func TestFewerDays(t *testing.T) {
	planned(t, 3000, most, func(t *testing.T, d *dice, b api.GiveBook, p []api.GiveTask) {
		now := d.sooner(b)
		sheet := d.From(0, len(p)-1)
		lostBefore, _ := give.Lost(b, p, sheet, p[sheet].One)
		lostNow, _ := give.Lost(now, p, sheet, p[sheet].One)
		before, e := give.Back(b, p)
		after, f := give.Back(now, p)
		noLater(t, before, after)
		noLater(t, lostBefore, lostNow)
		was, _ := give.Tables(b, p)
		is, _ := give.Tables(now, p)
		for table := range b.Dues {
			if e != api.OK || f != api.OK || is[table] < was[table] {
				t.Fatal(b, now, p, was, is, e, f)
			}
		}
	})
}

func noLater(t *testing.T, before, now []api.Span) {
	t.Helper()
	for sheet, s := range now {
		if s.Low > before[sheet].Low || s.High > before[sheet].High {
			t.Fatal(before, now)
		}
	}
}

// P6.8: in a truth with fewer days no sheet is back later.
func TestFewerDaysInTruths(t *testing.T) {
	planned(t, 3000, most, func(t *testing.T, d *dice, b api.GiveBook, p []api.GiveTask) {
		long, short := d.truth(b), d.truth(b)
		for c := range b.Computers {
			short.Post[c], short.Sheet[c], short.Look[c] = min(short.Post[c], long.Post[c]), min(short.Sheet[c], long.Sheet[c]), min(short.Look[c], long.Look[c])
		}
		before, e := give.When(b, p, long)
		now, f := give.When(b, p, short)
		for sheet := range p {
			if e != api.OK || f != api.OK || now[sheet] > before[sheet] {
				t.Fatal(b, p, long, short, before, now, e, f)
			}
		}
	})
}

// P6.8: no fewer plans are found.
func TestPlansWithFewerDays(t *testing.T) {
	planned(t, 300, most, func(t *testing.T, d *dice, b api.GiveBook, _ []api.GiveTask) {
		now := d.sooner(b)
		before, e := give.Count(b)
		after, f := give.Count(now)
		_, was, _ := give.Best(b)
		_, is, g := give.Best(now)
		if e != api.OK || f != api.OK || g != api.OK || after < before || is > was {
			t.Fatal(b, now, before, after, was, is, e, f, g)
		}
		for sheet := range b.Sheets {
			had, _ := give.Who(b, sheet)
			has, _ := give.Who(now, sheet)
			if slices.ContainsFunc(had, func(hand int) bool { return !slices.Contains(has, hand) }) {
				t.Fatal(b, now, sheet, had, has)
			}
		}
	})
}

// found is the lists that all functions return, and all else as a text.
type found struct {
	numbers   [][]int
	spans     [][]api.Span
	words     [][]api.GiveWord
	plans     [][]api.GiveTask
	computers [][]api.GiveComputer
	text      string
}

func results(b api.GiveBook, p []api.GiveTask, t api.GiveTruth) found {
	var f found
	numbers := func(n []int, _ api.Errno) { f.numbers = append(f.numbers, n) }
	numbers(give.When(b, p, t))
	numbers(give.Idle(b, p))
	numbers(give.Who(b, 0))
	back := func(s []api.Span, _ api.Errno) { f.spans = append(f.spans, s) }
	back(give.Back(b, p))
	back(give.Lost(b, p, 0, p[0].One))
	words, _ := give.Tables(b, p)
	first, _ := give.First(b)
	best, _, _ := give.Best(b)
	f.words, f.plans = append(f.words, words), append(f.plans, first, best)
	f.text, _ = give.Print(b)
	for range 2 {
		read, _ := give.Read(f.text)
		f.numbers, f.computers = append(f.numbers, read.Dues, read.Sheets), append(f.computers, read.Computers)
	}
	f.text += fmt.Sprintln(give.Why(b, p)) + fmt.Sprintln(give.Proof(b, p)) + fmt.Sprintln(give.Count(b)) + fmt.Sprintln(give.More(b, 1))
	return f
}

// doShare tells whether some of the lists share memory.
func (f found) doShare() bool {
	return trial.Share(f.numbers, func(n *int) { *n += 5 }) || trial.Share(f.spans, func(s *api.Span) { s.Low += 5 }) || trial.Share(f.words, func(w *api.GiveWord) { *w += 5 }) || trial.Share(f.plans, func(t *api.GiveTask) { t.One += 5 }) || trial.Share(f.computers, func(c *api.GiveComputer) { c.Room += 5 })
}

// withRoom returns a book with room behind each list, where something could be written.
func withRoom(b api.GiveBook) api.GiveBook {
	b.Computers = append(slices.Clone(b.Computers), computer(5, 5, 5, 5, 5, 5, 5))[:len(b.Computers)]
	b.Dues, b.Sheets = trial.WithRoom(b.Dues...), trial.WithRoom(b.Sheets...)
	return b
}

func isBookUntouched(now, was api.GiveBook) bool {
	return slices.Equal(now.Computers[:len(now.Computers)+1], withRoom(was).Computers[:len(was.Computers)+1]) && trial.IsUntouched(now.Dues, was.Dues...) && trial.IsUntouched(now.Sheets, was.Sheets...)
}

// R4 and R8: arguments are not changed, results share no memory, and equal calls have equal results.
func TestMemory(t *testing.T) {
	late, four := withDues(bookA(), 99, 99), withRooms(withMore(bookA(), 2), 0, 1, 2)
	for _, x := range []struct {
		b     api.GiveBook
		plan  []api.GiveTask
		truth api.GiveTruth
	}{{bookA(), planP(), truthT()}, {bookA(), planR(), truthT()}, {late, plan(0, 1, 2, 0, 1, 2), truthT()}, {four, plan(1, 2, 3, 1, 2, 3), truthOf(list(1, 2, 1, 0, 1, 1, 0, 3, 1, 0, 3, 1))}} {
		b, p := withRoom(x.b), append(slices.Clone(x.plan), plan(5, 5, 5)...)[:len(x.plan)]
		truth := api.GiveTruth{Post: trial.WithRoom(x.truth.Post...), Sheet: trial.WithRoom(x.truth.Sheet...), Look: trial.WithRoom(x.truth.Look...)}
		f := results(b, p, truth)
		first := fmt.Sprint(f)
		if f.doShare() {
			t.Error("results share memory", x.plan)
		}
		if !isBookUntouched(b, x.b) || !slices.Equal(p[:len(p)+1], append(slices.Clone(x.plan), plan(5, 5, 5)...)) || !trial.IsUntouched(truth.Post, x.truth.Post...) || !trial.IsUntouched(truth.Sheet, x.truth.Sheet...) || !trial.IsUntouched(truth.Look, x.truth.Look...) {
			t.Error("an argument was changed", b, p, truth)
		}
		if again := fmt.Sprint(results(b, p, truth)); again != first {
			t.Error(first, again)
		}
	}
}

// R3: nil and empty lists are the same value.
func TestEmptyLists(t *testing.T) {
	refused(t, callsOf(api.GiveBook{Computers: []api.GiveComputer{}, Dues: []int{}, Sheets: []int{}}, []api.GiveTask{}, api.GiveTruth{Post: []int{}, Sheet: []int{}, Look: []int{}}, 0, 0), api.ErrArg)
	refused(t, callsOf(api.GiveBook{}, nil, api.GiveTruth{}, 0, 0), api.ErrArg)
	for _, none := range [][]api.GiveTask{nil, {}} {
		refused(t, planCallsOf(bookA(), none, truthT(), 0, 0), api.ErrArg)
	}
}

// P0.12: no arguments make a function panic, and whatever comes with an error is zero.
func TestAnyArguments(t *testing.T) {
	d := &dice{trial.Dice{State: 5}}
	odd := list(least, most, -100, 100, 99, 6, 5, 4, 3, 2, 1, 0, -1)
	one := func() int { return trial.Of(&d.Dice, odd) }
	for range 2000 {
		b := d.bookWith(d.From(2, 3), d.From(1, 3))
		truth := d.truth(b)
		p, is := d.plan(b)
		if !is {
			p = plan(one(), one(), one())
		}
		switch d.From(0, 8) {
		case 0:
			b.Computers[d.From(0, 1)].Room = one()
		case 1:
			b.Computers[d.From(0, 1)] = computer(0, one(), one(), one(), one(), one(), one())
		case 2:
			b.Dues = append(b.Dues, one())
		case 3:
			b.Sheets = append(b.Sheets, one())
		case 4:
			p[d.From(0, len(p)-1)] = plan(one(), one(), one())[0]
		case 5:
			truth.Sheet[d.From(0, 1)] = one()
		case 6:
			truth.Post, truth.Look = nil, append(truth.Look, one())
		case 7:
			p = p[1:]
		}
		for name, call := range callsOf(b, p, truth, one(), one()) {
			zero, e := call()
			if e != api.OK && !zero || e == api.OK && give.Check(b) != api.OK {
				t.Fatal(name, b, p, truth, zero, e)
			}
		}
	}
}
