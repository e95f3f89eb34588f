package room

import (
	"slices"

	"ephemerist/api"
	"ephemerist/give"
	"ephemerist/hands"
	"ephemerist/reckon"
)

// entry is an entry that is formed.
type entry interface {
	// mustGo gives up if the entry does not go after what stands.
	mustGo(s *standing)
}

// waitEntry is how many days later it is.
type waitEntry int

type giveEntry struct {
	sheet int
	task  api.GiveTask
}

type columnEntry struct {
	work
	numbers []int
}

type againEntry struct{ work }

type passEntry struct {
	sheet int
	right []int
}

// payEntry is a line of pay, as yet without its Sheets and its Errors.
type payEntry api.PayLine

type dueEntry struct{ table, day int }

type startEntry struct {
	start int
	span  api.Span
}

type readEntry struct{ copied, place, figure int }

type undoEntry struct{}

// entryOf asks for an entry that is formed.
func entryOf(x api.RoomEntry) entry {
	n := x.Numbers
	switch x.Kind {
	case api.RoomWait:
		return waitEntry(n[0])
	case api.RoomGive:
		return giveEntry{n[0], api.GiveTask{One: n[1], Other: n[2], Third: n[3]}}
	case api.RoomColumn:
		return columnEntry{work{n[0], n[1]}, n[2:]}
	case api.RoomAgain:
		return againEntry{work{n[0], n[1]}}
	case api.RoomPass:
		return passEntry{n[0], n[1:]}
	case api.RoomPay:
		paid := api.PayMoney{Pounds: n[3], Shillings: n[4], Pence: n[5], Farthings: n[6]}
		return payEntry{Hand: n[0], Mornings: n[1], Posts: n[2], Paid: paid}
	case api.RoomDue:
		return dueEntry{n[0], n[1]}
	case api.RoomStart:
		return startEntry{n[0], api.Span{Low: n[1], High: n[2]}}
	case api.RoomRead:
		return readEntry{n[0], n[1], n[2]}
	}
	return undoEntry{}
}

// doesNotGo is what an entry gives up with that does not go.
type doesNotGo struct{}

func must(is bool) {
	if !is {
		panic(doesNotGo{})
	}
}

// takes tells whether an entry goes after what stands.
func (s *standing) takes(e entry) (goes bool) {
	defer func() {
		if _, no := recover().(doesNotGo); no {
			goes = false
		}
	}()
	e.mustGo(s)
	return true
}

func (x waitEntry) mustGo(s *standing) {
	must(x >= 1 && s.day+int(x) <= api.RoomLast)
}

func (x giveEntry) mustGo(s *standing) {
	must(s.isSheet(x.sheet) && !s.sheets[x.sheet].isGiven)
	// If all sheets had this task, they would have its fault, too.
	_, _, e := give.Why(s.Book, slices.Repeat([]api.GiveTask{x.task}, len(s.sheets)))
	must(e == api.ErrNone)
}

func (x columnEntry) mustGo(s *standing) {
	must(s.isWork(x.work) && !s.isDone(x.work))
	must(len(x.numbers) == sizeOf(s.RoomSuite))
	must(hands.Check(api.HandsSheet{Columns: [][]int{x.numbers}, Errors: []int{0}}) == api.OK)
	hand := s.Book.Computers[x.hand]
	must(s.day >= s.sheets[x.sheet].day+2*hand.Post.Low+hand.Sheet.Low)
}

func (x againEntry) mustGo(s *standing) {
	must(s.isWork(x.work) && s.isDone(x.work) && !s.sheets[x.sheet].isPassed())
}

func (x passEntry) mustGo(s *standing) {
	must(s.isSheet(x.sheet) && s.isCompared(x.sheet) && !s.sheets[x.sheet].isPassed())
	agrees, _ := hands.Agrees(s.compared(x.sheet), x.right)
	must(agrees)
	must(isTrue(s.Plan, append(s.notes(), s.notesOf(x.sheet, x.right)...)))
}

func (x payEntry) mustGo(s *standing) {
	must(isPaid(s.payWith(api.PayLine(x))))
}

func (x dueEntry) mustGo(s *standing) {
	must(reckon.Within(x.table, 0, len(s.Book.Dues)-1) && reckon.Within(x.day, s.day, api.GiveLast))
}

func (x startEntry) mustGo(s *standing) {
	must(reckon.Within(x.start, 0, len(s.Plan.Starts)-1))
	now := s.Plan.Starts[x.start]
	must(now.Low <= x.span.Low && x.span.Low <= x.span.High && x.span.High <= now.High)
	narrower := s.Plan
	narrower.Starts = slices.Clone(s.Plan.Starts)
	narrower.Starts[x.start] = x.span
	must(isTrue(narrower, s.notes()))
}

func (x readEntry) mustGo(s *standing) {
	must(reckon.Within(x.copied, 0, len(s.Tree.Copies)-1) && reckon.Within(x.place, 0, s.Tree.Places-1))
	must(s.Tree.Copies[x.copied].Seen[x.place] == unread && reckon.Within(x.figure, 0, 9))
}

func (undoEntry) mustGo(s *standing) {
	must(len(s.stands) > 0)
}

// enter makes what stands what it is after an entry that goes.
func (s *standing) enter(e entry) {
	switch x := e.(type) {
	case waitEntry:
		s.day += int(x)
	case giveEntry:
		s.sheets[x.sheet] = sheet{isGiven: true, task: x.task, day: s.day}
	case columnEntry:
		s.columns[x.work] = x.numbers
	case againEntry:
		delete(s.columns, x.work)
	case passEntry:
		s.sheets[x.sheet].right = x.right
	case payEntry:
		unpaid := s.unpaid(x.Hand)
		s.Pay = s.payWith(api.PayLine(x))
		for _, number := range unpaid {
			s.sheets[number].paid = append(s.sheets[number].paid, x.Hand)
		}
	case dueEntry:
		s.Book.Dues[x.table] = x.day
	case startEntry:
		s.Plan.Starts[x.start] = x.span
	case readEntry:
		s.Tree.Copies[x.copied].Seen[x.place] = x.figure
	}
}
