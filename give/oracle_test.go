package give_test

import (
	"fmt"
	"slices"
	"testing"

	"ephemerist/api"
	"ephemerist/give"
	"ephemerist/trial"
)

// This file has a second way to each result: all truths and all plans are
// written out, and what computers do is played day by day.

const (
	never  = api.GiveNever
	may    = api.GiveMay
	surely = api.GiveSurely

	most, least = 1<<63 - 1, -1 << 63
)

func list(n ...int) []int { return trial.List(n...) }

func span(low, high int) api.Span { return api.Span{Low: low, High: high} }

func spans(s ...api.Span) []api.Span { return s }

// computer returns a computer with the numbers of its line.
func computer(n ...int) api.GiveComputer {
	return api.GiveComputer{Room: n[0], Post: span(n[1], n[2]), Sheet: span(n[3], n[4]), Look: span(n[5], n[6])}
}

func computers(c ...api.GiveComputer) []api.GiveComputer { return c }

// plan returns a plan with tasks of three numbers each.
func plan(n ...int) []api.GiveTask {
	var tasks []api.GiveTask
	for task := range slices.Chunk(n, 3) {
		tasks = append(tasks, api.GiveTask{One: task[0], Other: task[1], Third: task[2]})
	}
	return tasks
}

// bookA is the book of the chapter, planP and planR are its plans, and truthT is
// its truth.
func bookA() api.GiveBook {
	return api.GiveBook{Computers: computers(computer(0, 1, 2, 2, 3, 1, 1), computer(1, 0, 1, 1, 2, 1, 2), computer(0, 0, 0, 3, 3, 1, 1)), Dues: list(12, 9), Sheets: list(0, 1)}
}

func planP() []api.GiveTask { return plan(0, 1, 2, 1, 2, 0) }

func planR() []api.GiveTask { return plan(1, 2, 0, 0, 1, 2) }

func truthT() api.GiveTruth {
	return api.GiveTruth{Post: list(1, 0, 0), Sheet: list(3, 1, 3), Look: list(1, 1, 1)}
}

// bookOfText returns the book of the chapter's text.
func bookOfText() api.GiveBook {
	return api.GiveBook{Computers: computers(computer(0, 0, 0, 1, 1, 1, 1)), Dues: list(0), Sheets: list(0)}
}

// longest returns the book with the longest text, in which all take as long as
// can be.
func longest() api.GiveBook {
	return api.GiveBook{Computers: slices.Repeat(computers(computer(2, 5, 5, 5, 5, 3, 3)), 4), Dues: list(99, 99), Sheets: list(1, 1, 1)}
}

func withRooms(b api.GiveBook, rooms ...int) api.GiveBook {
	b.Computers = slices.Clone(b.Computers)
	for i, room := range rooms {
		b.Computers[i].Room = room
	}
	return b
}

func withDues(b api.GiveBook, dues ...int) api.GiveBook {
	b.Dues = dues
	return b
}

func withSheets(b api.GiveBook, sheets ...int) api.GiveBook {
	b.Sheets = sheets
	return b
}

func withComputers(b api.GiveBook, c ...api.GiveComputer) api.GiveBook {
	b.Computers = c
	return b
}

// withMore returns a book with a computer more that is like one of it.
func withMore(b api.GiveBook, like int) api.GiveBook {
	return withComputers(b, append(slices.Clone(b.Computers), b.Computers[like])...)
}

func sameBook(a, b api.GiveBook) bool {
	return slices.Equal(a.Computers, b.Computers) && slices.Equal(a.Dues, b.Dues) && slices.Equal(a.Sheets, b.Sheets)
}

// faultOf returns the fault of a task, or 0.
func faultOf(b api.GiveBook, t api.GiveTask) api.GiveFault {
	numbers := list(t.One, t.Other, t.Third)
	there := slices.DeleteFunc(slices.Clone(numbers), func(n int) bool { return n < 0 || n >= len(b.Computers) })
	slices.Sort(numbers)
	switch {
	case len(there) < 3:
		return api.GiveNobody
	case len(slices.Compact(numbers)) < 3:
		return api.GiveTwice
	case t.One > t.Other:
		return api.GiveOrder
	case b.Computers[t.One].Room == b.Computers[t.Other].Room:
		return api.GiveTogether
	}
	return 0
}

// played returns on which day each sheet is back in a truth. From some hands
// some sheets are lost: lost[hand] tells which ones.
func played(p []api.GiveTask, t api.GiveTruth, lost map[int][]int) []int {
	arrived := make([]int, len(p))
	back := make([]int, len(p))
	for worker := range t.Post {
		sheets := sheetsOf(p, func(task api.GiveTask) bool { return task.One == worker || task.Other == worker })
		day := t.Post[worker]
		for i, sheet := range slices.Concat(sheets, lost[worker]) {
			day += t.Sheet[worker]
			if i >= len(sheets) || !slices.Contains(lost[worker], sheet) {
				arrived[sheet] = max(arrived[sheet], day+t.Post[worker]+t.Post[p[sheet].Third])
			}
		}
	}
	for worker := range t.Post {
		left := 0
		compares := sheetsOf(p, func(task api.GiveTask) bool { return task.Third == worker })
		for day := 0; len(compares) > 0; day++ {
			if left == 1 {
				back[compares[0]] = day + t.Post[worker]
				compares = compares[1:]
			}
			left = max(left-1, 0)
			if left == 0 && len(compares) > 0 && arrived[compares[0]] <= day {
				left = t.Look[worker]
			}
		}
	}
	return back
}

func sheetsOf(p []api.GiveTask, is func(api.GiveTask) bool) []int {
	var sheets []int
	for sheet, task := range p {
		if is(task) {
			sheets = append(sheets, sheet)
		}
	}
	return sheets
}

// tablesOf returns on which day each table is back when sheets are back on some
// days.
func tablesOf(b api.GiveBook, days []int) []int {
	tables := make([]int, len(b.Dues))
	for sheet, table := range b.Sheets {
		tables[table] = max(tables[table], days[sheet])
	}
	return tables
}

// isDone tells whether all tables are back when they are due.
func isDone(b api.GiveBook, days []int) bool {
	for table, day := range tablesOf(b, days) {
		if day > b.Dues[table] {
			return false
		}
	}
	return true
}

// truthsOf returns all truths.
func truthsOf(b api.GiveBook) []api.GiveTruth {
	lists := [][]int{nil}
	for _, c := range b.Computers {
		for _, s := range spans(c.Post, c.Sheet, c.Look) {
			var longer [][]int
			for _, begin := range lists {
				for n := s.Low; n <= s.High; n++ {
					longer = append(longer, append(slices.Clone(begin), n))
				}
			}
			lists = longer
		}
	}
	var truths []api.GiveTruth
	for _, n := range lists {
		truths = append(truths, truthOf(n))
	}
	return truths
}

// truthOf returns a truth with the numbers of each computer.
func truthOf(n []int) api.GiveTruth {
	var t api.GiveTruth
	for c := range slices.Chunk(n, 3) {
		t.Post, t.Sheet, t.Look = append(t.Post, c[0]), append(t.Sheet, c[1]), append(t.Look, c[2])
	}
	return t
}

// tasksOf returns all tasks without a fault, in lexicographic order.
func tasksOf(b api.GiveBook) []api.GiveTask {
	var tasks []api.GiveTask
	many := len(b.Computers)
	for n := range many * many * many {
		t := api.GiveTask{One: n / many / many, Other: n / many % many, Third: n % many}
		if faultOf(b, t) == 0 {
			tasks = append(tasks, t)
		}
	}
	return tasks
}

// plansOf returns all good plans, in lexicographic order.
func plansOf(b api.GiveBook) [][]api.GiveTask {
	plans := [][]api.GiveTask{nil}
	for range b.Sheets {
		var longer [][]api.GiveTask
		for _, begin := range plans {
			for _, t := range tasksOf(b) {
				longer = append(longer, append(slices.Clone(begin), t))
			}
		}
		plans = longer
	}
	return plans
}

// comesBefore tells whether a plan comes before another one.
func comesBefore(a, b []api.GiveTask) bool {
	numbers := func(p []api.GiveTask) []int {
		var n []int
		for _, t := range p {
			n = append(n, t.One, t.Other, t.Third)
		}
		return n
	}
	return slices.Compare(numbers(a), numbers(b)) < 0
}

type dice struct{ trial.Dice }

func (d *dice) span(low, high int) api.Span {
	from := d.From(low, high)
	return span(from, d.From(from, high))
}

// bookWith returns a book with so many computers and sheets.
func (d *dice) bookWith(many, sheets int) api.GiveBook {
	var b api.GiveBook
	for range many {
		b.Computers = append(b.Computers, api.GiveComputer{Room: d.From(0, api.GiveRooms-1), Post: d.span(0, d.From(0, api.GivePost)), Sheet: d.span(1, d.From(1, api.GivePace)), Look: d.span(1, api.GiveLook)})
	}
	// most tables are due on a day on which they can be back
	for range d.From(1, api.GiveTables) {
		b.Dues = append(b.Dues, trial.Of(&d.Dice, list(d.From(0, api.GiveLast), d.From(5, 15), d.From(5, 30), d.From(10, 45))))
	}
	for range sheets {
		b.Sheets = append(b.Sheets, d.From(0, len(b.Dues)-1))
	}
	return b
}

// widest returns a book with as many computers and sheets as there are at random,
// most often with enough computers for a plan.
func (d *dice) widest() api.GiveBook {
	return d.bookWith(trial.Of(&d.Dice, list(1, 2, 3, 3, 4, 4, 4)), d.From(1, api.GiveSheets))
}

// narrow returns a book with at most so many truths.
func (d *dice) narrow(b api.GiveBook, truths int) api.GiveBook {
	b.Computers = slices.Clone(b.Computers)
	many := 1
	var ends []*api.Span
	for i := range b.Computers {
		ends = append(ends, &b.Computers[i].Post, &b.Computers[i].Sheet, &b.Computers[i].Look)
	}
	wide := make([]int, len(ends))
	for i, s := range ends {
		wide[i] = s.High - s.Low
		s.High = s.Low
	}
	for range 3 * len(ends) {
		i := d.From(0, len(ends)-1)
		was := ends[i].High - ends[i].Low
		if now := min(was+1, wide[i]); many/(was+1)*(now+1) <= truths {
			ends[i].High, many = ends[i].Low+now, many/(was+1)*(now+1)
		}
	}
	return b
}

// truth returns a truth, now and then one at the ends of the spans.
func (d *dice) truth(b api.GiveBook) api.GiveTruth {
	ends := d.From(0, 1) == 0
	var numbers []int
	for _, c := range b.Computers {
		for _, s := range spans(c.Post, c.Sheet, c.Look) {
			n := d.From(s.Low, s.High)
			if ends {
				n = trial.Of(&d.Dice, list(s.Low, s.High))
			}
			numbers = append(numbers, n)
		}
	}
	return truthOf(numbers)
}

// plan returns a good plan of a book, or false if there is none.
func (d *dice) plan(b api.GiveBook) ([]api.GiveTask, bool) {
	tasks := tasksOf(b)
	if len(tasks) == 0 {
		return nil, false
	}
	var p []api.GiveTask
	for range b.Sheets {
		p = append(p, trial.Of(&d.Dice, tasks))
	}
	return p, true
}

// books calls f with the chapter's books and with many others that have at most
// so many truths.
func books(t *testing.T, many, truths int, f func(t *testing.T, d *dice, b api.GiveBook)) {
	t.Helper()
	d := &dice{}
	for _, b := range trial.List(bookA(), bookOfText(), longest(), withMore(bookA(), 2)) {
		f(t, d, d.narrow(b, truths))
	}
	for range many {
		if b := d.widest(); !t.Failed() {
			f(t, d, d.narrow(b, truths))
		}
	}
}

// planned calls f with good plans of many books.
func planned(t *testing.T, many, truths int, f func(t *testing.T, d *dice, b api.GiveBook, p []api.GiveTask)) {
	t.Helper()
	books(t, many, truths, func(t *testing.T, d *dice, b api.GiveBook) {
		if p, is := d.plan(b); is {
			f(t, d, b, p)
		}
	})
}

// badBooks are books that are not as defined, each in one way.
func badBooks() []api.GiveBook {
	one, ok := bookOfText(), computer(0, 0, 0, 1, 1, 1, 1)
	bad := trial.List(api.GiveBook{}, withComputers(one), withComputers(one, slices.Repeat(computers(ok), 5)...), withComputers(one, slices.Repeat(computers(ok), 1000)...), withDues(one), withDues(one, 0, 0, 0), withDues(one, make([]int, 1000)...), withSheets(one), withSheets(one, 0, 0, 0, 0), withSheets(one, make([]int, 1000)...))
	for _, n := range list(-1, 3, 100, most, least) {
		bad = append(bad, withRooms(one, n), withRooms(bookA(), 0, n), withRooms(bookA(), 0, 0, n))
	}
	for _, n := range list(-1, 100, most, least) {
		bad = append(bad, withDues(one, n), withDues(one, 0, n), withDues(one, n, 0))
	}
	for _, n := range list(-1, 1, 2, most, least) {
		bad = append(bad, withSheets(one, n), withSheets(one, 0, n), withSheets(one, 0, 0, n), withSheets(one, n, 0))
	}
	bad = append(bad, withSheets(bookA(), 0, 2), withSheets(bookA(), -1, 1))
	set := func(s api.Span, set func(*api.GiveComputer, api.Span)) {
		c := ok
		set(&c, s)
		bad = append(bad, withComputers(one, c), withComputers(one, c, ok), withComputers(one, ok, ok, ok, c))
	}
	wrong := spans(span(-1, 0), span(-1, -1), span(2, 1), span(most, most), span(least, least), span(least, most), span(most, least), span(1, most), span(least, 1), span(0, 99))
	for _, s := range append(wrong, span(0, 6), span(6, 6), span(5, 0)) {
		set(s, func(c *api.GiveComputer, s api.Span) { c.Post = s })
	}
	for _, s := range append(wrong, span(0, 0), span(0, 1), span(1, 6), span(6, 6), span(5, 4)) {
		set(s, func(c *api.GiveComputer, s api.Span) { c.Sheet = s })
	}
	for _, s := range append(wrong, span(0, 0), span(0, 1), span(1, 4), span(4, 4), span(3, 2)) {
		set(s, func(c *api.GiveComputer, s api.Span) { c.Look = s })
	}
	return bad
}

// call is a call of a function, which tells whether its other results are zero.
type call func() (bool, api.Errno)

// callsOf returns calls of all functions that have a book.
func callsOf(b api.GiveBook, p []api.GiveTask, t api.GiveTruth, sheet, computer int) map[string]call {
	calls := planCallsOf(b, p, t, sheet, computer)
	calls["Why"] = func() (bool, api.Errno) { x, y, e := give.Why(b, p); return x == 0 && y == 0, e }
	calls["First"] = func() (bool, api.Errno) { x, e := give.First(b); return len(x) == 0, e }
	calls["Count"] = func() (bool, api.Errno) { x, e := give.Count(b); return x == 0, e }
	calls["Best"] = func() (bool, api.Errno) { x, y, e := give.Best(b); return len(x) == 0 && y == 0, e }
	calls["Who"] = func() (bool, api.Errno) { x, e := give.Who(b, sheet); return len(x) == 0, e }
	calls["More"] = func() (bool, api.Errno) { x, e := give.More(b, computer); return x == 0, e }
	calls["Print"] = func() (bool, api.Errno) { x, e := give.Print(b); return x == "", e }
	return calls
}

// planCallsOf returns calls of all functions that have a plan, which should be good.
func planCallsOf(b api.GiveBook, p []api.GiveTask, t api.GiveTruth, sheet, computer int) map[string]call {
	return map[string]call{
		"When":   func() (bool, api.Errno) { x, e := give.When(b, p, t); return len(x) == 0, e },
		"Back":   func() (bool, api.Errno) { x, e := give.Back(b, p); return len(x) == 0, e },
		"Tables": func() (bool, api.Errno) { x, e := give.Tables(b, p); return len(x) == 0, e },
		"Proof":  func() (bool, api.Errno) { x, y, z, e := give.Proof(b, p); return x == 0 && y == 0 && z == 0, e },
		"Idle":   func() (bool, api.Errno) { x, e := give.Idle(b, p); return len(x) == 0, e },
		"Lost":   func() (bool, api.Errno) { x, e := give.Lost(b, p, sheet, computer); return len(x) == 0, e },
	}
}

// refused fails if a call does not return an error with zero values beside it.
func refused(t *testing.T, calls map[string]call, want api.Errno, what ...any) {
	t.Helper()
	for name, call := range calls {
		if zero, e := call(); !zero || e != want {
			t.Error(name, fmt.Sprint(what...), zero, e)
		}
	}
}
