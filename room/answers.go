package room

import (
	"slices"

	"ephemerist/api"
	"ephemerist/copies"
	"ephemerist/differ"
	"ephemerist/give"
	"ephemerist/hands"
	"ephemerist/pay"
	"ephemerist/reckon"
)

// thing is what a number of a question tells.
type thing int

const (
	aSheet thing = iota
	aComputer
	aRow
	aStart
	someMornings
	somePosts
)

// topic is how questions of a kind are asked: a word, and what each number after
// it tells. Hands that are paid are computers, too.
type topic struct {
	word   string
	things []thing
}

var topics = [...]topic{
	api.RoomDay - 1:    {word: "day"},
	api.RoomLeft - 1:   {word: "left"},
	api.RoomGiven - 1:  {"given", []thing{aSheet}},
	api.RoomWrote - 1:  {"wrote", []thing{aSheet, aComputer}},
	api.RoomValues - 1: {"values", []thing{aSheet, aRow}},
	api.RoomWrong - 1:  {"wrong", []thing{aSheet, aComputer}},
	api.RoomPassed - 1: {word: "passed"},
	api.RoomTruths - 1: {word: "truths"},
	api.RoomKnown - 1:  {"known", []thing{aStart}},
	api.RoomNext - 1:   {word: "next"},
	api.RoomSure - 1:   {word: "sure"},
	api.RoomBack - 1:   {word: "back"},
	api.RoomTables - 1: {word: "tables"},
	api.RoomFirst - 1:  {word: "first"},
	api.RoomBlame - 1:  {word: "blame"},
	api.RoomFewest - 1: {word: "fewest"},
	api.RoomCopy - 1:   {word: "copy"},
	api.RoomOwed - 1:   {"owed", []thing{aComputer, someMornings, somePosts}},
	api.RoomTotal - 1:  {"total", []thing{aComputer}},
	api.RoomDone - 1:   {"done", []thing{aComputer}},
	api.RoomStands - 1: {word: "stands"},
}

// isAsked tells whether a question has a kind, and tells of things that there
// are.
func (s *standing) isAsked(q api.RoomQuestion) bool {
	if !reckon.Within(int(q.Kind), int(api.RoomDay), len(topics)) {
		return false
	}
	last := [...]int{
		aSheet:       len(s.Book.Sheets) - 1,
		aComputer:    len(s.Book.Computers) - 1,
		aRow:         sizeOf(s.RoomSuite) - 1,
		aStart:       len(s.Plan.Starts) - 1,
		someMornings: api.PayMornings,
		somePosts:    api.PayPosts,
	}
	var spans []api.Span
	for _, x := range topics[q.Kind-1].things {
		spans = append(spans, api.Span{Low: 0, High: last[x]})
	}
	return reckon.AreWithin(q.Numbers, spans)
}

// answer returns the answer of a question that can be asked. With an error, the
// numbers mean nothing.
func (s *standing) answer(q api.RoomQuestion) ([]int, api.Errno) {
	answers := [...]func(*standing, []int) ([]int, api.Errno){
		api.RoomDay - 1:    (*standing).tellDay,
		api.RoomLeft - 1:   (*standing).tellLeft,
		api.RoomGiven - 1:  (*standing).tellGiven,
		api.RoomWrote - 1:  (*standing).tellWrote,
		api.RoomValues - 1: (*standing).tellValues,
		api.RoomWrong - 1:  (*standing).tellWrong,
		api.RoomPassed - 1: (*standing).tellPassed,
		api.RoomTruths - 1: (*standing).tellTruths,
		api.RoomKnown - 1:  (*standing).tellKnown,
		api.RoomNext - 1:   (*standing).tellNext,
		api.RoomSure - 1:   (*standing).tellSure,
		api.RoomBack - 1:   (*standing).tellBack,
		api.RoomTables - 1: (*standing).tellTables,
		api.RoomFirst - 1:  (*standing).tellFirst,
		api.RoomBlame - 1:  (*standing).tellBlame,
		api.RoomFewest - 1: (*standing).tellFewest,
		api.RoomCopy - 1:   (*standing).tellCopy,
		api.RoomOwed - 1:   (*standing).tellOwed,
		api.RoomTotal - 1:  (*standing).tellTotal,
		api.RoomDone - 1:   (*standing).tellDone,
		api.RoomStands - 1: (*standing).tellStands,
	}
	return answers[q.Kind-1](s, q.Numbers)
}

func (s *standing) tellDay([]int) ([]int, api.Errno) { return []int{s.day}, api.OK }

func (s *standing) tellLeft([]int) ([]int, api.Errno) { return s.left(), api.OK }

func (s *standing) tellGiven(n []int) ([]int, api.Errno) {
	x := s.sheets[n[0]]
	if !x.isGiven {
		return nil, api.OK
	}
	return tasksAsNumbers(x.task), api.OK
}

func (s *standing) tellWrote(n []int) ([]int, api.Errno) {
	return slices.Clone(s.columns[work{n[0], n[1]}]), api.OK
}

func (s *standing) tellValues(n []int) ([]int, api.Errno) {
	if !s.isCompared(n[0]) {
		return nil, api.ErrRule
	}
	return hands.Values(s.compared(n[0]), n[1])
}

func (s *standing) tellWrong(n []int) ([]int, api.Errno) {
	if !s.isCompared(n[0]) || !s.sheets[n[0]].isHand(n[1]) {
		return nil, api.ErrRule
	}
	words, e := hands.Wrong(s.compared(n[0]), slices.Index(s.sheets[n[0]].hands(), n[1]))
	return asNumbers(words), e
}

func (s *standing) tellPassed([]int) ([]int, api.Errno) { return s.passed(), api.OK }

func (s *standing) tellTruths([]int) ([]int, api.Errno) {
	many, e := differ.Agree(s.Plan, s.notes())
	return []int{many}, e
}

func (s *standing) tellKnown(n []int) ([]int, api.Errno) {
	spans, e := differ.Known(s.Plan, s.notes())
	return spansAsNumbers(spans[n[0]]), e
}

func (s *standing) tellNext([]int) ([]int, api.Errno) {
	row, many, e := differ.Next(s.Plan, s.notes())
	return []int{row, many}, e
}

func (s *standing) tellSure([]int) ([]int, api.Errno) {
	known := s.Plan
	// Some truth agrees with the right columns of a desk, whatever is entered.
	known.Starts, _ = differ.Known(s.Plan, s.notes())
	return differ.Sure(known)
}

func (s *standing) tellBack([]int) ([]int, api.Errno) {
	if len(s.left()) > 0 {
		return nil, api.ErrRule
	}
	days, e := give.Back(s.Book, s.tasks())
	return spansAsNumbers(days...), e
}

func (s *standing) tellTables([]int) ([]int, api.Errno) {
	if len(s.left()) > 0 {
		return nil, api.ErrRule
	}
	words, e := give.Tables(s.Book, s.tasks())
	return asNumbers(words), e
}

func (s *standing) tellFirst([]int) ([]int, api.Errno) {
	tasks, e := give.First(s.Book)
	return tasksAsNumbers(tasks...), e
}

func (s *standing) tellBlame([]int) ([]int, api.Errno) {
	words, e := copies.Blame(s.Tree)
	return asNumbers(words), e
}

func (s *standing) tellFewest([]int) ([]int, api.Errno) {
	many, e := copies.Fewest(s.Tree)
	return []int{many}, e
}

func (s *standing) tellCopy([]int) ([]int, api.Errno) {
	copied, place, many, e := copies.Next(s.Tree)
	return []int{copied, place, many}, e
}

func (s *standing) tellOwed(n []int) ([]int, api.Errno) {
	if len(s.Pay.Lines) >= api.PayLines {
		return nil, api.ErrRule
	}
	sums, e := pay.Bounds(s.payWith(api.PayLine{Hand: n[0], Mornings: n[1], Posts: n[2]}))
	return spansAsNumbers(sums[len(s.Pay.Lines)]), e
}

func (s *standing) tellTotal(n []int) ([]int, api.Errno) {
	sum, e := pay.Total(s.Pay, n[0])
	return spansAsNumbers(sum), e
}

func (s *standing) tellDone(n []int) ([]int, api.Errno) {
	sheets, errors := s.done(n[0])
	return []int{sheets, errors}, api.OK
}

func (s *standing) tellStands([]int) ([]int, api.Errno) { return s.stands, api.OK }

// asNumbers returns words of another layer as numbers.
func asNumbers[T ~int](words []T) []int {
	var numbers []int
	for _, w := range words {
		numbers = append(numbers, int(w))
	}
	return numbers
}

func spansAsNumbers(spans ...api.Span) []int {
	var numbers []int
	for _, s := range spans {
		numbers = append(numbers, s.Low, s.High)
	}
	return numbers
}

func tasksAsNumbers(tasks ...api.GiveTask) []int {
	var numbers []int
	for _, t := range tasks {
		numbers = append(numbers, t.One, t.Other, t.Third)
	}
	return numbers
}
