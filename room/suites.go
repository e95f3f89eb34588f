package room

import (
	"slices"

	"ephemerist/api"
	"ephemerist/copies"
	"ephemerist/differ"
	"ephemerist/give"
	"ephemerist/pay"
	"ephemerist/reckon"
)

func isSuite(s api.RoomSuite) bool {
	if differ.Check(s.Plan) != api.OK || give.Check(s.Book) != api.OK || copies.Check(s.Tree) != api.OK {
		return false
	}
	return s.Plan.Rows <= api.RoomRows && s.Plan.Rows%len(s.Book.Sheets) == 0 && reckon.Within(s.Errors, 0, api.HandsErrors) &&
		s.Pay.Hands == len(s.Book.Computers) && isPaid(s.Pay)
}

// isPaid tells whether a book of pay is as defined, and agrees with some truth.
func isPaid(b api.PayBook) bool {
	_, e := pay.Agrees(b)
	return e == api.OK
}

// isTrue tells whether some truth of a plan agrees with notes.
func isTrue(p api.DifferPlan, notes []api.DifferSeen) bool {
	many, _ := differ.Agree(p, notes)
	return many > 0
}

// sizeOf returns how many rows each sheet has.
func sizeOf(s api.RoomSuite) int { return s.Plan.Rows / len(s.Book.Sheets) }

// cloned returns a suite that shares no memory with another one.
func cloned(s api.RoomSuite) api.RoomSuite {
	s.Plan.Starts = slices.Clone(s.Plan.Starts)
	s.Book.Computers = slices.Clone(s.Book.Computers)
	s.Book.Dues = slices.Clone(s.Book.Dues)
	s.Book.Sheets = slices.Clone(s.Book.Sheets)
	s.Tree.Copies = slices.Clone(s.Tree.Copies)
	for i, c := range s.Tree.Copies {
		s.Tree.Copies[i].Seen = slices.Clone(c.Seen)
	}
	s.Pay.Lines = slices.Clone(s.Pay.Lines)
	return s
}
