package room_test

import (
	"fmt"
	"slices"
	"strconv"
	"strings"
	"testing"

	"ephemerist/api"
	"ephemerist/copies"
	"ephemerist/differ"
	"ephemerist/give"
	"ephemerist/hands"
	"ephemerist/pay"
	"ephemerist/room"
	"ephemerist/trial"
)

// This file has a second way to each result: nothing is kept of a desk but the
// entries that were made, undos are struck out with what they take back, all else
// is looked for among the entries, from the last one on, and the truths of a plan
// are written out.

const most, least = 1<<63 - 1, -1 << 63

func list(n ...int) []int { return trial.List(n...) }

func span(low, high int) api.Span { return api.Span{Low: low, High: high} }

func spans(ends ...int) []api.Span { return trial.Spans(ends...) }

// computer returns a computer of a room, with both ends of its Post, its Sheet and
// its Look.
func computer(room int, ends ...int) api.GiveComputer {
	days := spans(ends...)
	return api.GiveComputer{Room: room, Post: days[0], Sheet: days[1], Look: days[2]}
}

func money(n ...int) api.PayMoney {
	return api.PayMoney{Pounds: n[0], Shillings: n[1], Pence: n[2], Farthings: n[3]}
}

// suiteS is the suite of the chapter.
func suiteS() api.RoomSuite {
	return api.RoomSuite{
		Plan:   api.DifferPlan{Starts: spans(120, 122, 4, 6), Rows: 4, Guard: 1},
		Book:   api.GiveBook{Computers: trial.List(computer(0, 1, 2, 2, 3, 1, 1), computer(1, 0, 1, 1, 2, 1, 2), computer(0, 0, 0, 3, 3, 1, 1)), Dues: list(12, 9), Sheets: list(0, 1)},
		Errors: 1,
		Tree:   api.CopiesTree{Places: 2, Copies: trial.List(seen(0, 4, 7), seen(0, -1, -1), seen(1, 4, 1), seen(1, 4, 1), seen(0, -1, 7), seen(4, 8, 7))},
		Pay: api.PayBook{Hands: 3, Unit: 4, Sheet: 30, Error: 5, Morning: 12, Post: 2, Lines: trial.List(
			api.PayLine{Hand: 0, Sheets: 3, Errors: span(1, 2), Mornings: 1, Paid: money(0, 2, 0, 0)},
			api.PayLine{Hand: 1, Sheets: 2, Errors: span(0, 1), Posts: 3, Paid: money(0, 1, 3, 0)},
			api.PayLine{Hand: 0, Sheets: 2, Mornings: 2, Posts: 1, Paid: money(0, 1, 9, 0)},
		)},
	}
}

func seen(parent int, figures ...int) api.CopiesCopy {
	return api.CopiesCopy{Parent: parent, Seen: figures}
}

// changed returns the suite of the chapter after some change.
func changed(change func(s *api.RoomSuite)) api.RoomSuite {
	s := suiteS()
	change(&s)
	return s
}

// others are suites of other forms: with one sheet, and with three; with one row
// in each; without errors; with one computer, who can do nothing; with as many
// lines of pay as there can be; and with tables that are due too soon.
func others() []api.RoomSuite {
	return trial.List(
		changed(func(s *api.RoomSuite) { s.Plan.Rows, s.Book.Sheets, s.Errors = 6, list(0), 0 }),
		changed(func(s *api.RoomSuite) { s.Plan.Rows, s.Book.Sheets, s.Errors = 6, list(1, 0, 1), 2 }),
		changed(func(s *api.RoomSuite) {
			s.Plan = api.DifferPlan{Starts: spans(-999, -999, 500, 502, -3, -3, 0, 1), Rows: 3, Guard: 3}
			s.Book.Sheets, s.Book.Dues = list(0, 0, 0), list(99)
		}),
		changed(func(s *api.RoomSuite) {
			s.Plan = api.DifferPlan{Starts: spans(-7, -6), Rows: 1}
			s.Book = api.GiveBook{Computers: trial.List(computer(2, 0, 5, 1, 5, 1, 3)), Dues: list(0), Sheets: list(0)}
			s.Tree = api.CopiesTree{Places: 1, Copies: trial.List(seen(0, 5))}
			s.Pay = api.PayBook{Hands: 1, Unit: 1, Lines: make([]api.PayLine, 5)}
		}),
		changed(func(s *api.RoomSuite) { s.Book.Dues = list(0, 0) }),
		changed(func(s *api.RoomSuite) {
			for i := range s.Book.Computers {
				s.Book.Computers[i].Room = 1
			}
		}),
	)
}

func cloned(s api.RoomSuite) api.RoomSuite {
	s.Plan.Starts, s.Pay.Lines = slices.Clone(s.Plan.Starts), slices.Clone(s.Pay.Lines)
	s.Book = api.GiveBook{Computers: slices.Clone(s.Book.Computers), Dues: slices.Clone(s.Book.Dues), Sheets: slices.Clone(s.Book.Sheets)}
	s.Tree.Copies = slices.Clone(s.Tree.Copies)
	for i, c := range s.Tree.Copies {
		s.Tree.Copies[i].Seen = slices.Clone(c.Seen)
	}
	return s
}

// kinds are the words of entries, and how many numbers they have, at least and at
// most.
var kinds = []struct {
	word         string
	fewest, most int
}{{"wait", 1, 1}, {"give", 4, 4}, {"column", 3, 8}, {"again", 2, 2}, {"pass", 2, 7}, {"pay", 7, 7}, {"due", 2, 2}, {"start", 3, 3}, {"read", 3, 3}, {"undo", 0, 0}}

// topics are the words of questions, and what their numbers are: a sheet, a
// computer, a row, the number of a start, mornings or posts.
var topics = []struct{ word, of string }{
	{"day", ""}, {"left", ""}, {"given", "s"}, {"wrote", "sc"}, {"values", "sr"}, {"wrong", "sc"}, {"passed", ""}, {"truths", ""}, {"known", "n"}, {"next", ""}, {"sure", ""},
	{"back", ""}, {"tables", ""}, {"first", ""}, {"blame", ""}, {"fewest", ""}, {"copy", ""}, {"owed", "cmp"}, {"total", "c"}, {"done", "c"}, {"stands", ""},
}

// said returns the word and the numbers of a line.
func said(line string) (string, []int) {
	words := strings.Fields(line)
	var numbers []int
	for _, w := range words[1:] {
		n, e := strconv.Atoi(w)
		if e != nil {
			panic(line)
		}
		numbers = append(numbers, n)
	}
	return words[0], numbers
}

// entry returns the entry of a line.
func entry(line string) api.RoomEntry {
	said, numbers := said(line)
	for i, k := range kinds {
		if k.word == said {
			return api.RoomEntry{Kind: api.RoomKind(i + 1), Numbers: numbers}
		}
	}
	panic(line)
}

// question returns the question of a line.
func question(line string) api.RoomQuestion {
	said, numbers := said(line)
	for i, t := range topics {
		if t.word == said {
			return api.RoomQuestion{Kind: api.RoomTopic(i + 1), Numbers: numbers}
		}
	}
	panic(line)
}

// line returns a word with some numbers.
func line(word string, numbers ...int) string {
	return strings.TrimSpace(word + " " + spoken(numbers))
}

// spoken returns numbers with blanks between them.
func spoken(numbers []int) string { return strings.Trim(fmt.Sprint(numbers), "[]") }

// lineOf returns the line of an entry.
func lineOf(x api.RoomEntry) string { return line(kinds[x.Kind-1].word, x.Numbers...) }

func isFormed(x api.RoomEntry) bool {
	if x.Kind < 1 || int(x.Kind) > len(kinds) || len(x.Numbers) < kinds[x.Kind-1].fewest || len(x.Numbers) > kinds[x.Kind-1].most {
		return false
	}
	return !slices.ContainsFunc(x.Numbers, func(n int) bool { return n < -99999 || n > 99999 })
}

// past is a suite with entries that stand, and their numbers.
type past struct {
	api.RoomSuite
	entries []api.RoomEntry
	numbers []int
}

// pastOf returns what stands of entries that were made.
func pastOf(s api.RoomSuite, made []api.RoomEntry) past {
	p := past{RoomSuite: s, entries: slices.Clone(made)}
	for number := range made {
		p.numbers = append(p.numbers, number)
	}
	for {
		at := slices.IndexFunc(p.entries, func(x api.RoomEntry) bool { return x.Kind == api.RoomUndo })
		if at < 0 {
			return p
		}
		p.entries, p.numbers = slices.Delete(p.entries, at-1, at+1), slices.Delete(p.numbers, at-1, at+1)
	}
}

func (p past) upTo(end int) past {
	p.entries = p.entries[:end:end]
	return p
}

func (p past) with(x api.RoomEntry) past {
	p.entries = slices.Concat(p.entries, trial.List(x))
	return p
}

// last returns the last entry of a kind whose first numbers are some numbers, -1
// if there is none.
func (p past) last(kind api.RoomKind, first ...int) int {
	at := len(p.entries) - 1
	for at >= 0 && (p.entries[at].Kind != kind || !slices.Equal(p.entries[at].Numbers[:len(first)], first)) {
		at--
	}
	return at
}

// rest returns the other numbers of the last entry of a kind whose first numbers
// are some numbers.
func (p past) rest(kind api.RoomKind, first ...int) []int {
	if at := p.last(kind, first...); at >= 0 {
		return p.entries[at].Numbers[len(first):]
	}
	return nil
}

func (p past) day() int {
	day := 0
	for _, x := range p.entries {
		if x.Kind == api.RoomWait {
			day += x.Numbers[0]
		}
	}
	return day
}

func (p past) size() int { return p.Plan.Rows / len(p.Book.Sheets) }

func (p past) isSheet(sheet int) bool { return sheet >= 0 && sheet < len(p.Book.Sheets) }

func (p past) isComputer(computer int) bool {
	return computer >= 0 && computer < len(p.Book.Computers)
}

// sheets returns all sheets of which something is so.
func (p past) sheets(is func(sheet int) bool) []int {
	var sheets []int
	for sheet := range p.Book.Sheets {
		if is(sheet) {
			sheets = append(sheets, sheet)
		}
	}
	return sheets
}

func (p past) isGiven(sheet int) bool { return p.last(api.RoomGive, sheet) >= 0 }

// hands returns the hands of a sheet.
func (p past) hands(sheet int) []int {
	task := p.rest(api.RoomGive, sheet)
	return task[:min(len(task), 2)]
}

func (p past) column(sheet, hand int) []int {
	if p.last(api.RoomAgain, sheet, hand) > p.last(api.RoomColumn, sheet, hand) {
		return nil
	}
	return p.rest(api.RoomColumn, sheet, hand)
}

func (p past) right(sheet int) []int { return p.rest(api.RoomPass, sheet) }

// both returns the sheet of layer 2 with the columns of both hands; false, if not
// both have one.
func (p past) both(sheet int) (api.HandsSheet, bool) {
	var s api.HandsSheet
	for _, hand := range p.hands(sheet) {
		if column := p.column(sheet, hand); column != nil {
			s.Columns, s.Errors = append(s.Columns, column), append(s.Errors, p.Errors)
		}
	}
	return s, len(s.Columns) == 2
}

// plan returns the plan with all starts as they are now.
func (p past) plan() api.DifferPlan {
	plan := cloned(p.RoomSuite).Plan
	for start := range plan.Starts {
		if ends := p.rest(api.RoomStart, start); ends != nil {
			plan.Starts[start] = spans(ends...)[0]
		}
	}
	return plan
}

// truths returns all truths of the plan that agree with all right columns.
func (p past) truths() [][]int {
	all := [][]int{nil}
	plan := p.plan()
	for _, s := range plan.Starts {
		var longer [][]int
		for _, truth := range all {
			for n := s.Low; n <= s.High; n++ {
				longer = append(longer, append(slices.Clone(truth), n))
			}
		}
		all = longer
	}
	return slices.DeleteFunc(all, func(truth []int) bool {
		table, _ := differ.Table(plan, truth)
		for sheet := range p.Book.Sheets {
			right := p.right(sheet)
			if !slices.Equal(right, table[sheet*p.size():][:len(right)]) {
				return true
			}
		}
		return false
	})
}

func (p past) book() api.GiveBook {
	book := cloned(p.RoomSuite).Book
	for table := range book.Dues {
		if day := p.rest(api.RoomDue, table); day != nil {
			book.Dues[table] = day[0]
		}
	}
	return book
}

func (p past) tasks() []api.GiveTask {
	var tasks []api.GiveTask
	for sheet := range p.Book.Sheets {
		if n := p.rest(api.RoomGive, sheet); n != nil {
			tasks = append(tasks, api.GiveTask{One: n[0], Other: n[1], Third: n[2]})
		}
	}
	return tasks
}

func (p past) tree() api.CopiesTree {
	tree := cloned(p.RoomSuite).Tree
	for _, x := range p.entries {
		if x.Kind == api.RoomRead {
			tree.Copies[x.Numbers[0]].Seen[x.Numbers[1]] = x.Numbers[2]
		}
	}
	return tree
}

// line returns the line of a hand: of the sheets that were passed after it was
// paid for the last time.
func (p past) line(hand, mornings, posts int, paid api.PayMoney) api.PayLine {
	l := api.PayLine{Hand: hand, Mornings: mornings, Posts: posts, Paid: paid}
	for _, x := range p.entries[p.last(api.RoomPay, hand)+1:] {
		if x.Kind != api.RoomPass || !slices.Contains(p.hands(x.Numbers[0]), hand) {
			continue
		}
		l.Sheets++
		for row, n := range p.column(x.Numbers[0], hand) {
			if n != x.Numbers[1+row] {
				l.Errors = span(l.Errors.Low+1, l.Errors.High+1)
			}
		}
	}
	return l
}

// pay returns the book of pay with all lines up to now, and some more.
func (p past) pay(more ...api.PayLine) api.PayBook {
	book := cloned(p.RoomSuite).Pay
	for at, x := range p.entries {
		if n := x.Numbers; x.Kind == api.RoomPay {
			book.Lines = append(book.Lines, p.upTo(at).line(n[0], n[1], n[2], money(n[3:]...)))
		}
	}
	book.Lines = append(book.Lines, more...)
	return book
}

// goes tells whether an entry that is formed goes.
func (p past) goes(x api.RoomEntry) bool {
	n := x.Numbers
	switch x.Kind {
	case api.RoomWait:
		return n[0] > 0 && p.day()+n[0] < 100
	case api.RoomGive:
		return p.isSheet(n[0]) && !p.isGiven(n[0]) && p.isFaultless(n[1], n[2], n[3])
	case api.RoomColumn:
		return slices.Contains(p.hands(n[0]), n[1]) && p.column(n[0], n[1]) == nil && p.isColumn(n[2:]) && p.day() >= p.soonest(n[0], n[1])
	case api.RoomAgain:
		return p.column(n[0], n[1]) != nil && p.right(n[0]) == nil
	case api.RoomPass:
		return p.isRight(n[0], n[1:]) && p.right(n[0]) == nil && len(p.with(x).truths()) > 0
	case api.RoomPay:
		_, e := pay.Agrees(p.with(x).pay())
		return e == api.OK
	case api.RoomDue:
		return n[0] >= 0 && n[0] < len(p.Book.Dues) && n[1] >= p.day() && n[1] < 100
	case api.RoomStart:
		if n[0] < 0 || n[0] >= len(p.Plan.Starts) || n[1] > n[2] {
			return false
		}
		now := p.plan().Starts[n[0]]
		return n[1] >= now.Low && n[2] <= now.High && len(p.with(x).truths()) > 0
	case api.RoomRead:
		return n[0] >= 0 && n[0] < len(p.Tree.Copies) && n[1] >= 0 && n[1] < p.Tree.Places && n[2] >= 0 && n[2] < 10 && p.tree().Copies[n[0]].Seen[n[1]] < 0
	}
	return len(p.entries) > 0
}

// isFaultless tells whether a task has no fault.
func (p past) isFaultless(one, other, third int) bool {
	return p.isComputer(one) && p.isComputer(other) && p.isComputer(third) && one < other && third != one && third != other && p.Book.Computers[one].Room != p.Book.Computers[other].Room
}

func (p past) isColumn(column []int) bool {
	return len(column) == p.size() && slices.Min(column) >= -999 && slices.Max(column) <= 999
}

// soonest returns the first day on which a hand can have done a sheet.
func (p past) soonest(sheet, hand int) int {
	c := p.Book.Computers[hand]
	return p.upTo(p.last(api.RoomGive, sheet)).day() + c.Post.Low + c.Sheet.Low + c.Post.Low
}

// isRight tells whether both columns of a sheet were copied from a column with
// errors that are not too many.
func (p past) isRight(sheet int, right []int) bool {
	s, is := p.both(sheet)
	for _, column := range s.Columns {
		made, e := hands.Errors(right, column)
		is = is && e == api.OK && len(made) <= p.Errors
	}
	return is
}

// entered returns the error with which an entry is made after others.
func entered(s api.RoomSuite, made []api.RoomEntry, x api.RoomEntry) api.Errno {
	switch {
	case !isFormed(x):
		return api.ErrArg
	case len(made) >= 24:
		return api.ErrLong
	case !pastOf(s, made).goes(x):
		return api.ErrRule
	}
	return api.OK
}

// answer returns the answer of a question.
func (p past) answer(q api.RoomQuestion) ([]int, api.Errno) {
	if !p.isAsked(q) {
		return nil, api.ErrArg
	}
	n := q.Numbers
	switch q.Kind {
	case api.RoomDay:
		return list(p.day()), api.OK
	case api.RoomLeft:
		return p.sheets(func(sheet int) bool { return !p.isGiven(sheet) }), api.OK
	case api.RoomGiven:
		return p.rest(api.RoomGive, n[0]), api.OK
	case api.RoomWrote:
		return p.column(n[0], n[1]), api.OK
	case api.RoomValues, api.RoomWrong:
		return p.compared(q)
	case api.RoomPassed:
		return p.sheets(func(sheet int) bool { return p.right(sheet) != nil }), api.OK
	case api.RoomTruths, api.RoomKnown, api.RoomNext, api.RoomSure:
		return p.planned(q), api.OK
	case api.RoomBack, api.RoomTables:
		return p.dated(q)
	case api.RoomFirst:
		tasks, e := give.First(p.book())
		var numbers []int
		for _, t := range tasks {
			numbers = append(numbers, t.One, t.Other, t.Third)
		}
		return numbers, e
	case api.RoomBlame, api.RoomFewest, api.RoomCopy:
		return p.copied(q)
	case api.RoomStands:
		return p.numbers, api.OK
	}
	return p.paid(q)
}

// isAsked tells whether a question has one of the kinds, and its numbers are what
// its row says.
func (p past) isAsked(q api.RoomQuestion) bool {
	if q.Kind < 1 || int(q.Kind) > len(topics) || len(q.Numbers) != len(topics[q.Kind-1].of) {
		return false
	}
	many := map[rune]int{'s': len(p.Book.Sheets), 'c': len(p.Book.Computers), 'r': p.size(), 'n': len(p.Plan.Starts), 'm': 11, 'p': 11}
	for i, what := range topics[q.Kind-1].of {
		if q.Numbers[i] < 0 || q.Numbers[i] >= many[what] {
			return false
		}
	}
	return true
}

func (p past) compared(q api.RoomQuestion) ([]int, api.Errno) {
	s, is := p.both(q.Numbers[0])
	at := slices.Index(p.hands(q.Numbers[0]), q.Numbers[1])
	switch {
	case !is || q.Kind == api.RoomWrong && at < 0:
		return nil, api.ErrRule
	case q.Kind == api.RoomValues:
		return hands.Values(s, q.Numbers[1])
	}
	words, e := hands.Wrong(s, at)
	return numbersOf(words), e
}

func numbersOf[T ~int](words []T) []int {
	var numbers []int
	for _, w := range words {
		numbers = append(numbers, int(w))
	}
	return numbers
}

func (p past) planned(q api.RoomQuestion) []int {
	truths, known := p.truths(), p.plan()
	for start := range known.Starts {
		var can []int
		for _, truth := range truths {
			can = append(can, truth[start])
		}
		known.Starts[start] = span(slices.Min(can), slices.Max(can))
	}
	switch q.Kind {
	case api.RoomTruths:
		return list(len(truths))
	case api.RoomKnown:
		return list(known.Starts[q.Numbers[0]].Low, known.Starts[q.Numbers[0]].High)
	case api.RoomNext:
		return mostTelling(p.plan(), truths)
	}
	var sure []int
	printed, _ := differ.Printed(known)
	for row, s := range printed {
		if s.Low == s.High {
			sure = append(sure, row)
		}
	}
	return sure
}

// mostTelling returns the row after which fewest truths are left, and how many.
func mostTelling(plan api.DifferPlan, truths [][]int) []int {
	next := list(0, most)
	for row := range plan.Rows {
		many := map[int]int{}
		left := 0
		for _, truth := range truths {
			table, _ := differ.Table(plan, truth)
			many[table[row]]++
			left = max(left, many[table[row]])
		}
		if left < next[1] {
			next = list(row, left)
		}
	}
	return next
}

// dated returns on which days sheets are back; and whether tables are when they
// are due: all of their sheets, as late, or as soon, as each can be.
func (p past) dated(q api.RoomQuestion) ([]int, api.Errno) {
	days, e := give.Back(p.book(), p.tasks())
	if e != api.OK {
		return nil, api.ErrRule
	}
	var numbers, tables []int
	for _, s := range days {
		numbers = append(numbers, s.Low, s.High)
	}
	for table, due := range p.book().Dues {
		soon, late := 0, 0
		for sheet, of := range p.Book.Sheets {
			if of == table {
				soon, late = max(soon, days[sheet].Low), max(late, days[sheet].High)
			}
		}
		tables = append(tables, 1)
		for _, last := range list(soon, late) {
			if last <= due {
				tables[table]++
			}
		}
	}
	if q.Kind == api.RoomTables {
		return tables, api.OK
	}
	return numbers, api.OK
}

func (p past) copied(q api.RoomQuestion) ([]int, api.Errno) {
	switch q.Kind {
	case api.RoomBlame:
		words, e := copies.Blame(p.tree())
		return numbersOf(words), e
	case api.RoomFewest:
		many, e := copies.Fewest(p.tree())
		return list(many), e
	}
	from, place, many, e := copies.Next(p.tree())
	if e != api.OK {
		return nil, e
	}
	return list(from, place, many), e
}

func (p past) paid(q api.RoomQuestion) ([]int, api.Errno) {
	n := q.Numbers
	switch q.Kind {
	case api.RoomTotal:
		sum, e := pay.Total(p.pay(), n[0])
		return list(sum.Low, sum.High), e
	case api.RoomDone:
		l := p.line(n[0], 0, 0, money(0, 0, 0, 0))
		return list(l.Sheets, l.Errors.High), api.OK
	}
	sums, e := pay.Bounds(p.pay(p.line(n[0], n[1], n[2], money(0, 0, 0, 0))))
	if e != api.OK {
		return nil, api.ErrRule
	}
	last := sums[len(sums)-1]
	return list(last.Low, last.High), e
}

// allQuestions returns questions of all kinds about all that a suite has, and some
// that it has not.
func allQuestions(s api.RoomSuite) []api.RoomQuestion {
	var all []api.RoomQuestion
	size := s.Plan.Rows / len(s.Book.Sheets)
	last := map[rune]int{'s': len(s.Book.Sheets), 'c': len(s.Book.Computers), 'r': size, 'n': len(s.Plan.Starts), 'm': 1, 'p': 1}
	for i, t := range topics {
		numbers := [][]int{nil}
		for _, what := range t.of {
			var longer [][]int
			for _, before := range numbers {
				for n := range last[what] + 1 {
					longer = append(longer, append(slices.Clone(before), n))
				}
			}
			numbers = longer
		}
		for _, n := range numbers {
			all = append(all, api.RoomQuestion{Kind: api.RoomTopic(i + 1), Numbers: n})
		}
	}
	return all
}

// everything returns all answers of a desk.
func everything(d *room.Desk, s api.RoomSuite) string {
	var all strings.Builder
	for _, q := range allQuestions(s) {
		y, e := d.Ask(q)
		fmt.Fprintln(&all, line(topics[q.Kind-1].word, q.Numbers...), "->", spoken(y), e)
	}
	return all.String()
}

// everythingOf returns all answers that a desk with some entries must have.
func everythingOf(s api.RoomSuite, made []api.RoomEntry) string {
	var all strings.Builder
	p := pastOf(s, made)
	for _, q := range allQuestions(s) {
		y, e := p.answer(q)
		fmt.Fprintln(&all, line(topics[q.Kind-1].word, q.Numbers...), "->", spoken(y), e)
	}
	return all.String()
}

// opened returns a desk at which some entries were made.
func opened(t *testing.T, s api.RoomSuite, made ...api.RoomEntry) *room.Desk {
	t.Helper()
	d, e := room.Open(s)
	if e != api.OK {
		t.Fatal(s, e)
	}
	for _, x := range made {
		if e := d.Enter(x); e != api.OK {
			t.Fatal(s, made, x, e)
		}
	}
	return d
}

// journalOf returns the journal of some entries.
func journalOf(made []api.RoomEntry) string {
	journal := ""
	for _, x := range made {
		journal += lineOf(x) + "\n"
	}
	return journal
}

// entries returns the entries of some lines.
func entries(lines ...string) []api.RoomEntry {
	var all []api.RoomEntry
	for _, l := range lines {
		all = append(all, entry(l))
	}
	return all
}
