package room

import (
	"slices"

	"ephemerist/api"
	"ephemerist/hands"
	"ephemerist/reckon"
)

// unread is what a copy has at a place where no figure was read.
const unread = -1

// standing is a suite as entries left it, with what else stands after them.
type standing struct {
	api.RoomSuite
	// stands is the numbers of the entries.
	stands  []int
	day     int
	sheets  []sheet
	columns map[work][]int
}

// work is what one hand does of a sheet.
type work struct{ sheet, hand int }

// sheet is what stands of a sheet.
type sheet struct {
	isGiven bool
	task    api.GiveTask
	// day is the one on which the sheet was given.
	day int
	// right is the right column of a sheet that is passed.
	right []int
	// paid is all hands that were paid for the sheet.
	paid []int
}

func (x sheet) isPassed() bool { return len(x.right) > 0 }

func (x sheet) hands() []int { return []int{x.task.One, x.task.Other} }

func (x sheet) isHand(computer int) bool {
	return x.isGiven && slices.Contains(x.hands(), computer)
}

// begin returns what stands before all entries.
func begin(s api.RoomSuite) *standing {
	return &standing{RoomSuite: cloned(s), sheets: make([]sheet, len(s.Book.Sheets)), columns: map[work][]int{}}
}

// having returns the numbers of those things of a list that have something.
func having[T any](things []T, has func(T) bool) []int {
	var numbers []int
	for number, x := range things {
		if has(x) {
			numbers = append(numbers, number)
		}
	}
	return numbers
}

// left returns all sheets that are not given.
func (s *standing) left() []int {
	return having(s.sheets, func(x sheet) bool { return !x.isGiven })
}

// passed returns all sheets that are passed.
func (s *standing) passed() []int {
	return having(s.sheets, sheet.isPassed)
}

// unpaid returns all sheets that are passed and for which a hand was not paid.
func (s *standing) unpaid(hand int) []int {
	return having(s.sheets, func(x sheet) bool {
		return x.isPassed() && x.isHand(hand) && !slices.Contains(x.paid, hand)
	})
}

func (s *standing) isSheet(number int) bool { return reckon.Within(number, 0, len(s.sheets)-1) }

// isWork tells whether a sheet is given to a hand.
func (s *standing) isWork(w work) bool { return s.isSheet(w.sheet) && s.sheets[w.sheet].isHand(w.hand) }

// isDone tells whether a hand has a column of a sheet.
func (s *standing) isDone(w work) bool {
	_, is := s.columns[w]
	return is
}

// isCompared tells whether both hands have a column of a sheet.
func (s *standing) isCompared(number int) bool {
	task := s.sheets[number].task
	return s.isDone(work{number, task.One}) && s.isDone(work{number, task.Other})
}

// compared returns the sheet with the columns of both hands, as layer 2 has it.
func (s *standing) compared(number int) api.HandsSheet {
	var both api.HandsSheet
	for _, hand := range s.sheets[number].hands() {
		both.Columns = append(both.Columns, s.columns[work{number, hand}])
		both.Errors = append(both.Errors, s.Errors)
	}
	return both
}

// notes returns the rows of all right columns.
func (s *standing) notes() []api.DifferSeen {
	var notes []api.DifferSeen
	for number := range len(s.sheets) {
		notes = append(notes, s.notesOf(number, s.sheets[number].right)...)
	}
	return notes
}

// notesOf returns the rows of a right column of a sheet.
func (s *standing) notesOf(number int, right []int) []api.DifferSeen {
	var notes []api.DifferSeen
	for place, value := range right {
		notes = append(notes, api.DifferSeen{Row: number*sizeOf(s.RoomSuite) + place, Value: value})
	}
	return notes
}

// tasks returns the tasks of all sheets.
func (s *standing) tasks() []api.GiveTask {
	var tasks []api.GiveTask
	for _, x := range s.sheets {
		tasks = append(tasks, x.task)
	}
	return tasks
}

// done returns how many sheets there are for which a hand was not paid, and how
// many errors its columns of them have.
func (s *standing) done(hand int) (int, int) {
	errors := 0
	unpaid := s.unpaid(hand)
	for _, number := range unpaid {
		made, _ := hands.Errors(s.sheets[number].right, s.columns[work{number, hand}])
		errors += len(made)
	}
	return len(unpaid), errors
}

// payWith returns the book of pay with a line more, which has the Sheets and the
// Errors of its hand.
func (s *standing) payWith(l api.PayLine) api.PayBook {
	sheets, errors := s.done(l.Hand)
	l.Sheets, l.Errors = sheets, api.Span{Low: errors, High: errors}
	book := s.Pay
	book.Lines = append(slices.Clip(book.Lines), l)
	return book
}
