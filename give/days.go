package give

import (
	"slices"

	"ephemerist/api"
	"ephemerist/reckon"
)

// When returns when all sheets are back in a truth.
func When(b api.GiveBook, plan []api.GiveTask, t api.GiveTruth) ([]int, api.Errno) {
	if !isTruth(b, t) {
		return nil, api.ErrArg
	}
	p := bookWithPlan{b, plan}
	if e := p.errorOf(); e != api.OK {
		return nil, e
	}
	return p.when(t), api.OK
}

// Back returns when all sheets are back at the soonest and at the latest.
func Back(b api.GiveBook, plan []api.GiveTask) ([]api.Span, api.Errno) {
	p := bookWithPlan{b, plan}
	if e := p.errorOf(); e != api.OK {
		return nil, e
	}
	return p.back(), api.OK
}

// Tables returns whether tables are back when they are due.
func Tables(b api.GiveBook, plan []api.GiveTask) ([]api.GiveWord, api.Errno) {
	p := bookWithPlan{b, plan}
	if e := p.errorOf(); e != api.OK {
		return nil, e
	}
	var words []api.GiveWord
	for table, back := range p.tables() {
		words = append(words, wordOf(back, b.Dues[table]))
	}
	return words, api.OK
}

// Proof returns the first table that need not be back when it is due, a sheet of it, and a day.
func Proof(b api.GiveBook, plan []api.GiveTask) (int, int, int, api.Errno) {
	p := bookWithPlan{b, plan}
	if e := p.errorOf(); e != api.OK {
		return 0, 0, 0, e
	}
	backs := p.back()
	for table, due := range b.Dues {
		for sheet, back := range backs {
			if b.Sheets[sheet] == table && back.High > due {
				return table, sheet, back.High, api.OK
			}
		}
	}
	return 0, 0, 0, api.ErrNone
}

// Idle returns all computers that have no task.
func Idle(b api.GiveBook, plan []api.GiveTask) ([]int, api.Errno) {
	p := bookWithPlan{b, plan}
	if e := p.errorOf(); e != api.OK {
		return nil, e
	}
	var idle []int
	for computer := range len(b.Computers) {
		has := func(t api.GiveTask) bool { return isHand(t, computer) || t.Third == computer }
		if !slices.ContainsFunc(plan, has) {
			idle = append(idle, computer)
		}
	}
	return idle, api.OK
}

// Lost returns when all sheets are back if one is lost.
func Lost(b api.GiveBook, plan []api.GiveTask, sheet, computer int) ([]api.Span, api.Errno) {
	if !isSheet(b, sheet) || !isComputer(b, computer) {
		return nil, api.ErrArg
	}
	p := bookWithPlan{b, plan}
	if e := p.errorOf(); e != api.OK {
		return nil, e
	}
	if !isHand(plan[sheet], computer) {
		return nil, api.ErrRule
	}
	return p.back(loss{sheet, computer}), api.OK
}

// loss is a sheet that is lost from a hand.
type loss struct{ sheet, hand int }

// when returns on which day each sheet is back in a truth, by a good plan.
func (p bookWithPlan) when(t api.GiveTruth, lost ...loss) []int {
	free := map[int]int{}
	days := make([]int, len(p.Sheets))
	for sheet := range len(p.Sheets) {
		task := p.plan[sheet]
		home := last(p.home(t, sheet, task.One, lost), p.home(t, sheet, task.Other, lost))
		third := task.Third
		free[third] = last(home+t.Post[third], free[third]) + t.Look[third]
		days[sheet] = free[third] + t.Post[third]
	}
	return days
}

// home returns on which day a sheet is home from a hand.
func (p bookWithPlan) home(t api.GiveTruth, sheet, hand int, lost []loss) int {
	done := p.upTo(sheet, hand)
	if slices.Contains(lost, loss{sheet, hand}) {
		done = p.upTo(len(p.Sheets)-1, hand) + 1
	}
	return 2*t.Post[hand] + done*t.Sheet[hand]
}

// upTo returns how many sheets a hand has up to one.
func (p bookWithPlan) upTo(sheet, hand int) int {
	many := 0
	for _, task := range p.plan[:sheet+1] {
		if isHand(task, hand) {
			many++
		}
	}
	return many
}

// back returns the first and the last day on which each sheet is back in a
// truth.
func (p bookWithPlan) back(lost ...loss) []api.Span {
	// No sheet is back sooner if anything takes longer.
	shortest, longest := truthsOf(p.GiveBook)
	firsts, lasts := p.when(shortest, lost...), p.when(longest, lost...)
	backs := make([]api.Span, len(firsts))
	for sheet := range len(firsts) {
		backs[sheet] = api.Span{Low: firsts[sheet], High: lasts[sheet]}
	}
	return backs
}

// tables returns the first and the last day on which each table is back in a
// truth.
func (p bookWithPlan) tables() []api.Span {
	tables := make([]api.Span, len(p.Dues))
	for sheet, back := range p.back() {
		table := p.Sheets[sheet]
		tables[table] = api.Span{Low: last(tables[table].Low, back.Low), High: last(tables[table].High, back.High)}
	}
	return tables
}

// isSure tells whether all tables surely are back when they are due.
func (p bookWithPlan) isSure() bool {
	for table, back := range p.tables() {
		if wordOf(back, p.Dues[table]) != api.GiveSurely {
			return false
		}
	}
	return true
}

// wordOf returns whether a table that is back between two days is when it is
// due.
func wordOf(back api.Span, due int) api.GiveWord {
	switch {
	case back.High <= due:
		return api.GiveSurely
	case back.Low <= due:
		return api.GiveMay
	}
	return api.GiveNever
}

// last returns the last of some days.
func last(days ...int) int {
	latest := 0
	for _, day := range days {
		latest = max(latest, day)
	}
	return latest
}

// isTruth tells whether a truth is one of a book.
func isTruth(b api.GiveBook, t api.GiveTruth) bool {
	post, sheet, look := spansOf(b)
	return reckon.AreWithin(t.Post, post) && reckon.AreWithin(t.Sheet, sheet) && reckon.AreWithin(t.Look, look)
}

// truthsOf returns the truth in which all takes as few days as it can, and the
// one in which it takes as many.
func truthsOf(b api.GiveBook) (shortest, longest api.GiveTruth) {
	post, sheet, look := spansOf(b)
	posts, sheets, looks := reckon.Ends(post), reckon.Ends(sheet), reckon.Ends(look)
	return api.GiveTruth{Post: posts[0], Sheet: sheets[0], Look: looks[0]},
		api.GiveTruth{Post: posts[1], Sheet: sheets[1], Look: looks[1]}
}

// spansOf returns how many days the post, a sheet and a comparison take each
// computer.
func spansOf(b api.GiveBook) (post, sheet, look []api.Span) {
	for _, c := range b.Computers {
		post, sheet, look = append(post, c.Post), append(sheet, c.Sheet), append(look, c.Look)
	}
	return post, sheet, look
}
