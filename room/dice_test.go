package room_test

import (
	"slices"
	"testing"

	"ephemerist/api"
	"ephemerist/hands"
	"ephemerist/pay"
	"ephemerist/trial"
)

// This file makes suites, and entries that often go.

type dice struct{ trial.Dice }

// span returns a span between two numbers that is at most so wide.
func (d *dice) span(low, high, wide int) api.Span {
	n := d.From(low, high)
	return span(n, min(high, n+d.From(0, wide)))
}

// suite returns a suite.
func (d *dice) suite() api.RoomSuite {
	sheets := d.From(1, 3)
	s := api.RoomSuite{Plan: d.plan(sheets), Book: d.book(sheets), Errors: trial.Of(&d.Dice, list(0, 1, 1, 2)), Tree: d.tree()}
	s.Pay = d.pay(len(s.Book.Computers))
	return s
}

func (d *dice) plan(sheets int) api.DifferPlan {
	p := api.DifferPlan{Starts: trial.List(d.span(-300, 300, 2), d.span(-60, 60, 2), d.span(-9, 9, 1), d.span(-2, 2, 1))[:d.From(1, 4)], Guard: d.From(0, 3)}
	p.Rows = sheets * d.From(1, 6/sheets)
	return p
}

func (d *dice) book(sheets int) api.GiveBook {
	b := api.GiveBook{Dues: list(d.From(0, 30), d.From(0, 30))[:d.From(1, 2)]}
	for i := range trial.Of(&d.Dice, list(1, 2, 3, 3, 3, 3, 3, 3, 3, 3, 3, 3)) {
		room := trial.Of(&d.Dice, list(i, i, d.From(0, 2)))
		b.Computers = append(b.Computers, api.GiveComputer{Room: room, Post: d.span(0, 2, 2), Sheet: d.span(1, 3, 2), Look: d.span(1, 3, 2)})
	}
	for range sheets {
		b.Sheets = append(b.Sheets, d.From(0, len(b.Dues)-1))
	}
	return b
}

func (d *dice) tree() api.CopiesTree {
	t := api.CopiesTree{Places: d.From(1, 3)}
	for i := range d.From(1, 6) {
		c := seen(d.From(0, max(0, i-1)))
		for range t.Places {
			c.Seen = append(c.Seen, max(-1, d.From(-3, 2)))
		}
		t.Copies = append(t.Copies, c)
	}
	return t
}

// pay returns a book of pay that agrees with some truth.
func (d *dice) pay(hands int) api.PayBook {
	b := api.PayBook{Hands: hands, Unit: trial.Of(&d.Dice, list(1, 4, 12, 48)), Sheet: d.From(0, 60), Error: d.From(0, 20), Morning: d.From(0, 20), Post: d.From(0, 5)}
	var truth []int
	for range trial.Of(&d.Dice, list(1, 1, 1, 2, 3, 5)) {
		l := api.PayLine{Hand: d.From(0, hands-1), Sheets: d.From(0, 5), Errors: d.span(0, 5, 3), Mornings: d.From(0, 3), Posts: d.From(0, 3)}
		b.Lines = append(b.Lines, l)
		truth = append(truth, d.From(l.Errors.Low, l.Errors.High))
	}
	paid, _ := pay.Pays(b, truth)
	for i, n := range paid {
		b.Lines[i].Paid, _ = pay.Money(n)
	}
	return b
}

// next returns an entry that often goes after some that stand.
func (d *dice) next(p past) api.RoomEntry {
	sheet := d.From(0, len(p.Book.Sheets)-1)
	kind := trial.Of(&d.Dice, trial.List(api.RoomWait, api.RoomGive, api.RoomColumn, api.RoomAgain, api.RoomPass, api.RoomPay, api.RoomDue, api.RoomStart, api.RoomRead, api.RoomUndo))
	hand := d.From(0, len(p.Book.Computers)-1)
	if d.From(0, 2) > 0 {
		kind, hand = d.forward(p, sheet)
	}
	numbers := d.likely(p, kind, sheet, hand)
	if len(numbers) > 0 && d.From(0, 9) == 0 {
		numbers[d.From(0, len(numbers)-1)] += trial.Of(&d.Dice, list(-100, -1, 1, 100))
	}
	return api.RoomEntry{Kind: kind, Numbers: numbers}
}

// forward returns the kind of entries that a sheet needs next, and for which hand.
func (d *dice) forward(p past, sheet int) (api.RoomKind, int) {
	if !p.isGiven(sheet) {
		return api.RoomGive, 0
	}
	hand := trial.Of(&d.Dice, p.hands(sheet))
	_, both := p.both(sheet)
	switch {
	case p.right(sheet) != nil:
		return trial.Of(&d.Dice, trial.List(api.RoomPay, api.RoomPay, api.RoomUndo, api.RoomStart)), hand
	case both:
		return trial.Of(&d.Dice, trial.List(api.RoomPass, api.RoomPass, api.RoomPass, api.RoomAgain)), hand
	case p.day() < p.soonest(sheet, hand) && d.From(0, 3) > 0:
		return api.RoomWait, hand
	}
	return api.RoomColumn, hand
}

// likely returns numbers of an entry of a kind.
func (d *dice) likely(p past, kind api.RoomKind, sheet, hand int) []int {
	switch kind {
	case api.RoomWait:
		return list(trial.Of(&d.Dice, list(1, 2, 3, 6)))
	case api.RoomGive:
		return append(list(sheet), d.task(p)...)
	case api.RoomColumn:
		return append(list(sheet, hand), d.miswritten(d.rightOf(p, sheet), d.From(0, p.Errors))...)
	case api.RoomAgain:
		return list(sheet, hand)
	case api.RoomPass:
		return append(list(sheet), d.passable(p, sheet)...)
	case api.RoomPay:
		return d.owed(p, hand)
	case api.RoomDue:
		return list(d.From(0, len(p.Book.Dues)-1), p.day()+d.From(0, 30))
	case api.RoomStart:
		start := d.From(0, len(p.Plan.Starts)-1)
		s := p.plan().Starts[start]
		return list(start, d.From(s.Low, s.High), d.From(s.Low, s.High))
	case api.RoomRead:
		return list(d.From(0, len(p.Tree.Copies)-1), d.From(0, p.Tree.Places-1), d.From(0, 3))
	}
	return nil
}

// task returns a task, most often one without a fault, if there is one.
func (d *dice) task(p past) []int {
	all := [][]int{{0, 1, 2}, {0, 2, 1}, {1, 2, 0}}
	can := slices.DeleteFunc(slices.Clone(all), func(task []int) bool { return !p.isFaultless(task[0], task[1], task[2]) })
	if len(can) == 0 || d.From(0, 9) == 0 {
		can = all
	}
	return slices.Clone(trial.Of(&d.Dice, can))
}

// rightOf returns a column that a sheet has in some truth that agrees, most often
// in the first one, so that both hands have columns of one truth.
func (d *dice) rightOf(p past, sheet int) []int {
	columns := columnsOf(p, sheet)
	return trial.Of(&d.Dice, trial.List(columns[0], columns[0], columns[0], trial.Of(&d.Dice, columns)))
}

// columnsOf returns the columns that a sheet has in the truths that agree.
func columnsOf(p past, sheet int) [][]int {
	var columns [][]int
	for _, truth := range p.truths() {
		var column []int
		for row := range p.Plan.Rows {
			state := slices.Clone(truth)
			for range row {
				for k := range len(state) - 1 {
					state[k] += state[k+1]
				}
			}
			column = append(column, state[0])
		}
		columns = append(columns, column[sheet*p.size():][:p.size()])
	}
	return columns
}

// passable returns a column that a sheet has in some truth, if there is one, one
// with which it can be passed.
func (d *dice) passable(p past, sheet int) []int {
	all := columnsOf(p, sheet)
	can := slices.DeleteFunc(slices.Clone(all), func(column []int) bool { return !p.isRight(sheet, column) })
	if len(can) == 0 || d.From(0, 9) == 0 {
		can = all
	}
	return slices.Clone(trial.Of(&d.Dice, can))
}

// miswritten returns a column with at most so many errors.
func (d *dice) miswritten(right []int, errors int) []int {
	column := slices.Clone(right)
	for range errors {
		row := d.From(0, len(right)-1)
		n := right[row]
		figures, sign := max(n, -n), 1
		if n < 0 {
			sign = -1
		}
		hundreds, tens, units := figures/100, figures/10%10, figures%10
		next := right[min(row+1, len(right)-1)]
		column[row] = trial.Of(&d.Dice, list(-n, next, sign*(hundreds*100+units*10+tens), sign*(tens*100+hundreds*10+units), n-10*sign, n-100*sign))
	}
	if _, e := hands.Errors(right, column); e != api.OK {
		return slices.Clone(right)
	}
	return column
}

// owed returns the numbers of a pay entry.
func (d *dice) owed(p past, hand int) []int {
	mornings, posts := d.From(0, 2), d.From(0, 2)
	truth, _ := pay.Agrees(p.pay())
	l := p.line(hand, mornings, posts, money(0, 0, 0, 0))
	paid, e := pay.Pays(p.pay(l), append(truth, l.Errors.Low))
	if e != api.OK {
		paid = list(0)
	}
	sum, _ := pay.Money(paid[len(paid)-1] + trial.Of(&d.Dice, list(0, 0, 0, 0, 0, p.Pay.Unit, 1)))
	return list(hand, mornings, posts, sum.Pounds, sum.Shillings, sum.Pence, sum.Farthings)
}

// made returns entries that can be made one after the other.
func (d *dice) made(s api.RoomSuite) []api.RoomEntry {
	var made []api.RoomEntry
	for range d.From(0, 50) {
		if x := d.next(pastOf(s, made)); entered(s, made, x) == api.OK {
			made = append(made, x)
		}
	}
	return made
}

// suites calls f with the chapter's suite, with others, and with many more.
func suites(t *testing.T, many int, f func(t *testing.T, d *dice, s api.RoomSuite)) {
	t.Helper()
	d := &dice{}
	for _, s := range append(others(), slices.Repeat(trial.List(suiteS()), 5)...) {
		f(t, d, s)
	}
	for range many {
		if s := d.suite(); !t.Failed() {
			f(t, d, s)
		}
	}
}

// pasts calls f with entries that were made at desks of many suites.
func pasts(t *testing.T, many int, f func(t *testing.T, d *dice, s api.RoomSuite, made []api.RoomEntry)) {
	t.Helper()
	suites(t, many, func(t *testing.T, d *dice, s api.RoomSuite) { f(t, d, s, d.made(s)) })
}
