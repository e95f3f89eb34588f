package room_test

import (
	"strings"
	"testing"

	"ephemerist/api"
	"ephemerist/room"
	"ephemerist/trial"
)

// R3: nil and empty lists are the same value.
func TestEmptyLists(t *testing.T) {
	s := suiteS()
	for _, none := range [][]int{nil, {}} {
		desk := opened(t, s, entry("wait 1"))
		if e := desk.Enter(api.RoomEntry{Kind: api.RoomUndo, Numbers: none}); e != api.OK {
			t.Error(e)
		}
		if y, e := desk.Ask(api.RoomQuestion{Kind: api.RoomDay, Numbers: none}); e != api.OK || spoken(y) != "0" {
			t.Error(y, e)
		}
		if y, e := room.Write(api.RoomEntry{Kind: api.RoomUndo, Numbers: none}); e != api.OK || y != "undo" {
			t.Error(y, e)
		}
		if y, e := room.Write(api.RoomEntry{Kind: api.RoomWait, Numbers: none}); e != api.ErrArg || y != "" {
			t.Error(y, e)
		}
		if e := desk.Enter(api.RoomEntry{Kind: api.RoomColumn, Numbers: none}); e != api.ErrArg {
			t.Error(e)
		}
		if y, e := desk.Ask(api.RoomQuestion{Kind: api.RoomGiven, Numbers: none}); e != api.ErrArg || len(y) > 0 {
			t.Error(y, e)
		}
	}
	for _, change := range trial.List(
		func(s *api.RoomSuite) { s.Plan.Starts = []api.Span{} }, func(s *api.RoomSuite) { s.Book.Computers = []api.GiveComputer{} }, func(s *api.RoomSuite) { s.Book.Dues = []int{} }, func(s *api.RoomSuite) { s.Book.Sheets = []int{} },
		func(s *api.RoomSuite) { s.Tree.Copies = []api.CopiesCopy{} }, func(s *api.RoomSuite) { s.Tree.Copies[0].Seen = []int{} }, func(s *api.RoomSuite) { s.Pay.Lines = []api.PayLine{} },
	) {
		if e := room.Check(changed(change)); e != api.ErrArg {
			t.Error(e)
		}
	}
}

// R8: equal calls have equal results.
func TestRepetition(t *testing.T) {
	pasts(t, 60, func(t *testing.T, _ *dice, s api.RoomSuite, made []api.RoomEntry) {
		var script strings.Builder
		script.WriteString(journalOf(made))
		for _, topic := range topics {
			l := line(topic.word, make([]int, len(topic.of))...) + "\n"
			if script.Len()+len(l) <= 1000 {
				script.WriteString(l)
			}
		}
		first, e := room.Console(s, script.String())
		for range 3 {
			if again, f := room.Console(cloned(s), script.String()); e != api.OK || f != api.OK || again != first {
				t.Fatal(s, script.String(), first, again, e, f)
			}
			d, at, f := room.Replay(s, journalOf(made))
			if f != api.OK || at != -1 || everything(d, s) != everything(opened(t, s, made...), s) {
				t.Fatal(s, made, at, f)
			}
		}
	})
}

// any returns a suite of which something may be out of range.
func (d *dice) any(one func() int) api.RoomSuite {
	s := cloned(d.suite())
	start, c, due, sheet := &s.Plan.Starts[0], &s.Book.Computers[0], &s.Book.Dues[0], &s.Book.Sheets[0]
	copied, l := &s.Tree.Copies[0], &s.Pay.Lines[0]
	fields := trial.List(&s.Plan.Rows, &s.Plan.Guard, &start.Low, &start.High, &c.Room, &c.Post.Low, &c.Post.High, &c.Sheet.Low, &c.Look.High, due, sheet, &s.Errors, &s.Tree.Places, &copied.Parent, &copied.Seen[0], &s.Pay.Hands, &s.Pay.Unit, &s.Pay.Sheet, &s.Pay.Error, &s.Pay.Morning, &s.Pay.Post, &l.Hand, &l.Sheets, &l.Errors.Low, &l.Errors.High, &l.Mornings, &l.Posts, &l.Paid.Pounds, &l.Paid.Farthings)
	if d.From(0, 1) == 0 {
		*trial.Of(&d.Dice, fields) = one()
	}
	switch d.From(0, 20) {
	case 0:
		s.Plan.Starts = nil
	case 1:
		s.Book = api.GiveBook{}
	case 2:
		s.Tree = api.CopiesTree{}
	case 3:
		s.Pay.Lines = nil
	case 4:
		s.Book.Sheets = append(s.Book.Sheets, s.Book.Sheets...)
	}
	return s
}

// P0.12: no arguments make a function panic, and whatever comes with an error is zero.
func TestAnyArguments(t *testing.T) {
	d := &dice{}
	one := func() int {
		return trial.Of(&d.Dice, list(least, most, -100000, 100000, -99999, 99999, 1000, -1000, 100, 99, 25, 10, 7, 6, 5, 4, 3, 2, 1, 0, -1))
	}
	numbers := func() []int {
		var n []int
		for range d.From(0, 9) {
			n = append(n, trial.Of(&d.Dice, list(one(), d.From(0, 3))))
		}
		return n
	}
	good := 0
	for range 700 {
		s := d.any(one)
		want := room.Check(s)
		desk, e := room.Open(s)
		if e != want || (desk == nil) != (want != api.OK) {
			t.Fatal(s, desk, e, want)
		}
		script := d.text(s, want == api.OK)
		again, at, f := room.Replay(s, script)
		if (again == nil) != (f != api.OK) || (at == -1) != (f == api.OK) || want != api.OK && (f != want || at != 0) {
			t.Fatal(s, script, at, f)
		}
		if y, e := room.Console(s, script); e != api.OK && y != "" || want != api.OK && e != want {
			t.Fatal(s, script, y, e)
		}
		for range 30 {
			x := api.RoomEntry{Kind: api.RoomKind(trial.Of(&d.Dice, list(one(), d.From(1, 10)))), Numbers: numbers()}
			q := api.RoomQuestion{Kind: api.RoomTopic(trial.Of(&d.Dice, list(one(), d.From(1, 21)))), Numbers: numbers()}
			if len(topics) >= int(q.Kind) && q.Kind > 0 {
				q.Numbers = make([]int, len(topics[q.Kind-1].of))
				for i := range q.Numbers {
					q.Numbers[i] = trial.Of(&d.Dice, list(one(), 0, 1))
				}
			}
			e := desk.Enter(x)
			y, f := desk.Ask(q)
			if want != api.OK && (e != api.ErrNil || f != api.ErrNil) || f != api.OK && len(y) > 0 {
				t.Fatal(s, x, q, e, y, f)
			}
			if l, e := room.Write(x); (e == api.OK) != isFormed(x) || e != api.OK && l != "" {
				t.Fatal(x, l, e)
			}
		}
		if want == api.OK {
			good++
		}
	}
	if good < 150 || good > 550 {
		t.Error(good)
	}
}

// text returns lines, of which some may be none.
func (d *dice) text(s api.RoomSuite, is bool) string {
	text := ""
	for range d.From(0, 30) {
		l := trial.Of(&d.Dice, trial.List("day", "undo", "wait 1", "x", "", "first", "next", lineOf(d.formed()), strings.Repeat("x", d.From(60, 70)), "\xff\x00"))
		if is {
			l = trial.Of(&d.Dice, trial.List(l, lineOf(d.next(pastOf(s, nil)))))
		}
		text += l + trial.Of(&d.Dice, trial.List("\n", "\n", "\n", "\n", "\n", "\n", "\n", "\n\n", "", "\r\n"))
	}
	return text
}
