package room_test

import (
	"slices"
	"testing"

	"ephemerist/api"
	"ephemerist/room"
	"ephemerist/trial"
)

// P10.1
func TestCheckAndOpen(t *testing.T) {
	suites(t, 500, func(t *testing.T, _ *dice, s api.RoomSuite) {
		d, e := room.Open(s)
		if f := room.Check(s); e != api.OK || f != api.OK || d == nil {
			t.Fatal(s, d, e, f)
		}
		if journal, e := d.Journal(); journal != "" || e != api.OK {
			t.Fatal(journal, e)
		}
		if got, want := everything(d, s), everythingOf(s, nil); got != want {
			t.Fatal(s, got, want)
		}
	})
}

// badSuites are suites that are not as defined, each in one way.
func badSuites() []api.RoomSuite {
	bad := trial.List(api.RoomSuite{},
		// parts that are not as defined by their layers
		changed(func(s *api.RoomSuite) { s.Plan = api.DifferPlan{} }), changed(func(s *api.RoomSuite) { s.Plan.Starts = nil }), changed(func(s *api.RoomSuite) { s.Plan.Starts[1] = span(6, 4) }), changed(func(s *api.RoomSuite) { s.Plan.Starts[0] = span(0, 7) }), changed(func(s *api.RoomSuite) { s.Plan.Guard = 4 }), changed(func(s *api.RoomSuite) { s.Plan.Guard = -1 }),
		changed(func(s *api.RoomSuite) { s.Book = api.GiveBook{} }), changed(func(s *api.RoomSuite) { s.Book.Computers[2].Room = 3 }), changed(func(s *api.RoomSuite) { s.Book.Computers[0].Sheet = span(0, 3) }), changed(func(s *api.RoomSuite) { s.Book.Dues = nil }), changed(func(s *api.RoomSuite) { s.Book.Dues[1] = 100 }), changed(func(s *api.RoomSuite) { s.Book.Dues = s.Book.Dues[:1] }), changed(func(s *api.RoomSuite) { s.Book.Sheets = nil }), changed(func(s *api.RoomSuite) { s.Book.Sheets[0] = -1 }), changed(func(s *api.RoomSuite) { s.Book.Sheets = list(0, 1, 0, 1) }),
		changed(func(s *api.RoomSuite) { s.Tree = api.CopiesTree{} }), changed(func(s *api.RoomSuite) { s.Tree.Places = 1 }), changed(func(s *api.RoomSuite) { s.Tree.Copies[1].Parent = 1 }), changed(func(s *api.RoomSuite) { s.Tree.Copies[2].Seen[0] = 10 }), changed(func(s *api.RoomSuite) { s.Tree.Copies[0].Parent = 1 }),
		changed(func(s *api.RoomSuite) { s.Pay = api.PayBook{} }), changed(func(s *api.RoomSuite) { s.Pay.Lines = nil }), changed(func(s *api.RoomSuite) { s.Pay.Unit = 49 }), changed(func(s *api.RoomSuite) { s.Pay.Lines[1].Hand = 3 }), changed(func(s *api.RoomSuite) { s.Pay.Lines[0].Paid.Pence = 24 }), changed(func(s *api.RoomSuite) { s.Pay.Lines = append(s.Pay.Lines, make([]api.PayLine, 3)...) }),
		// a book of pay that agrees with no truth
		changed(func(s *api.RoomSuite) { s.Pay.Lines[2].Paid.Pence = 10 }), changed(func(s *api.RoomSuite) { s.Pay.Lines[0].Paid = money(0, 2, 0, 1) }), changed(func(s *api.RoomSuite) { s.Pay.Sheet++ }),
		// as many computers, but not as many hands, and the other way round
		changed(func(s *api.RoomSuite) { s.Pay.Hands = 2 }), changed(func(s *api.RoomSuite) { s.Book.Computers = s.Book.Computers[:2] }), changed(func(s *api.RoomSuite) { s.Book.Computers = append(s.Book.Computers, s.Book.Computers[0]) }), changed(func(s *api.RoomSuite) {
			s.Book.Computers, s.Pay.Hands = append(s.Book.Computers, s.Book.Computers[0]), 4
		}),
	)
	for _, rows := range list(least, -4, 0, 1, 3, 5, 7, 8, 12, 13, most) {
		bad = append(bad, changed(func(s *api.RoomSuite) { s.Plan.Rows = rows }))
	}
	for _, rows := range list(1, 2, 4, 5, 9) {
		bad = append(bad, changed(func(s *api.RoomSuite) { s.Plan.Rows, s.Book.Sheets = rows, list(0, 1, 0) }))
	}
	for _, errors := range list(least, -1, 3, most) {
		bad = append(bad, changed(func(s *api.RoomSuite) { s.Errors = errors }))
	}
	return bad
}

// P10.1, R1 and R2: a suite that is not as defined comes before all else.
func TestBadSuites(t *testing.T) {
	for _, s := range badSuites() {
		if e := room.Check(s); e != api.ErrArg {
			t.Error(s, e)
		}
		if d, e := room.Open(s); d != nil || e != api.ErrArg {
			t.Error(s, d, e)
		}
		for _, text := range trial.List("", "wait 1\n", "no", string(make([]byte, 1001))) {
			if d, at, e := room.Replay(s, text); d != nil || at != 0 || e != api.ErrArg {
				t.Error(s, text, d, at, e)
			}
			if y, e := room.Console(s, text); y != "" || e != api.ErrArg {
				t.Error(s, text, y, e)
			}
		}
	}
}

// P10.1: what a suite can have at most, and at least.
func TestSuitesAtTheirLimits(t *testing.T) {
	good := others()
	for _, rows := range list(2, 4, 6) {
		good = append(good, changed(func(s *api.RoomSuite) { s.Plan.Rows = rows }))
	}
	for _, rows := range list(3, 6) {
		good = append(good, changed(func(s *api.RoomSuite) { s.Plan.Rows, s.Book.Sheets = rows, list(0, 1, 0) }))
	}
	for _, rows := range list(1, 2, 3, 4, 5, 6) {
		good = append(good, changed(func(s *api.RoomSuite) { s.Plan.Rows, s.Book.Sheets = rows, list(1) }))
	}
	for _, errors := range list(0, 1, 2) {
		good = append(good, changed(func(s *api.RoomSuite) { s.Errors = errors }))
	}
	// the book agrees with another truth than the first one
	good = append(good, changed(func(s *api.RoomSuite) {
		s.Pay.Lines[0].Paid, s.Pay.Lines[2].Paid = money(0, 1, 11, 0), money(0, 1, 9, 0)
	}))
	for _, s := range good {
		if e := room.Check(s); e != api.OK {
			t.Error(s, e)
		}
	}
}

// A desk that nobody opened.
func TestNoDesk(t *testing.T) {
	for _, d := range []*room.Desk{nil, {}, new(room.Desk)} {
		for _, x := range append(entries("wait 1", "undo"), api.RoomEntry{}) {
			if e := d.Enter(x); e != api.ErrNil {
				t.Error(x, e)
			}
		}
		for _, q := range append(allQuestions(suiteS()), api.RoomQuestion{}) {
			if y, e := d.Ask(q); len(y) > 0 || e != api.ErrNil {
				t.Error(q, y, e)
			}
		}
		if y, e := d.Journal(); y != "" || e != api.ErrNil {
			t.Error(y, e)
		}
	}
}

// P10.12: what is changed in a suite, in an entry, or in an answer does not change the desk.
func TestMemoryOfDesks(t *testing.T) {
	pasts(t, 150, func(t *testing.T, _ *dice, was api.RoomSuite, made []api.RoomEntry) {
		s := cloned(was)
		given := cloneEntries(made)
		desk := opened(t, s, given...)
		spoil(&s)
		for i := range given {
			for k := range given[i].Numbers {
				given[i].Numbers[k] += 7
			}
			given[i].Kind = 7
		}
		want := everythingOf(was, made)
		if got := everything(desk, was); got != want {
			t.Fatal(was, made, got, want)
		}
		var answers [][]int
		for range 2 {
			for _, q := range allQuestions(was) {
				y, _ := desk.Ask(q)
				answers = append(answers, y)
			}
		}
		if trial.Share(answers, func(n *int) { *n += 7 }) {
			t.Fatal("answers share memory", was, made)
		}
		if got := everything(desk, was); got != want {
			t.Fatal(was, made, got, want)
		}
		if journal, e := desk.Journal(); journal != journalOf(made) || e != api.OK {
			t.Fatal(journal, made, e)
		}
	})
}

func cloneEntries(some []api.RoomEntry) []api.RoomEntry {
	some = slices.Clone(some)
	for i, x := range some {
		some[i].Numbers = slices.Clone(x.Numbers)
	}
	return some
}

// spoil changes all that a suite has.
func spoil(s *api.RoomSuite) {
	for i := range s.Plan.Starts {
		s.Plan.Starts[i] = span(-1, -1)
	}
	for i := range s.Book.Computers {
		s.Book.Computers[i] = computer(0, 5, 5, 5, 5, 3, 3)
	}
	for i := range s.Book.Dues {
		s.Book.Dues[i]++
	}
	for i := range s.Book.Sheets {
		s.Book.Sheets[i] = 0
	}
	for i, c := range s.Tree.Copies {
		s.Tree.Copies[i].Parent = 0
		for k := range c.Seen {
			c.Seen[k] = 9 - k - i
		}
	}
	for i := range s.Pay.Lines {
		s.Pay.Lines[i] = api.PayLine{Sheets: 1}
	}
	s.Plan.Rows, s.Errors, s.Tree.Places, s.Pay.Hands = 0, 0, 0, 0
}

// R4: a desk that was copied, and one of the same suite, do not hear of each other.
func TestDesksShareNothing(t *testing.T) {
	s := suiteS()
	one, other := opened(t, s), opened(t, s)
	for i, l := range trial.List("wait 1", "wait 2", "read 1 0 4", "due 1 20", "start 0 120 121", "wait 3") {
		copied := *one
		made := entries("wait 1", "wait 2", "read 1 0 4", "due 1 20", "start 0 120 121")[:i]
		if e := one.Enter(entry(l)); e != api.OK {
			t.Fatal(l, e)
		}
		if e := copied.Enter(entry("wait 9")); e != api.OK {
			t.Fatal(l, e)
		}
		if got, want := everything(&copied, s), everythingOf(s, append(made, entry("wait 9"))); got != want {
			t.Error(l, got, want)
		}
		if got, want := everything(one, s), everythingOf(s, append(made[:i:i], entry(l))); got != want {
			t.Error(l, got, want)
		}
	}
	if got, want := everything(other, s), everythingOf(s, nil); got != want {
		t.Error(got, want)
	}
}

// R4: arguments are not changed.
func TestArguments(t *testing.T) {
	pasts(t, 100, func(t *testing.T, _ *dice, was api.RoomSuite, made []api.RoomEntry) {
		s := withRoom(was)
		desk := opened(t, s)
		for _, x := range made {
			given := api.RoomEntry{Kind: x.Kind, Numbers: trial.WithRoom(x.Numbers...)}
			if e := desk.Enter(given); e != api.OK || given.Kind != x.Kind || !trial.IsUntouched(given.Numbers, x.Numbers...) {
				t.Fatal(was, made, x, given, e)
			}
			if y, e := room.Write(given); e != api.OK || y != lineOf(x) || !trial.IsUntouched(given.Numbers, x.Numbers...) {
				t.Fatal(x, given, y, e)
			}
		}
		for _, q := range allQuestions(was) {
			given := api.RoomQuestion{Kind: q.Kind, Numbers: trial.WithRoom(q.Numbers...)}
			desk.Ask(given)
			if given.Kind != q.Kind || !trial.IsUntouched(given.Numbers, q.Numbers...) {
				t.Fatal(was, made, q, given)
			}
		}
		room.Check(s)
		room.Replay(s, journalOf(made))
		room.Console(s, journalOf(made))
		if !isUntouched(s, was) {
			t.Fatal(s, was, made)
		}
	})
}

// withRoom returns a suite whose lists have room behind them.
func withRoom(s api.RoomSuite) api.RoomSuite {
	s = cloned(s)
	s.Plan.Starts = append(s.Plan.Starts, span(7, 7))[:len(s.Plan.Starts)]
	s.Book.Computers = append(s.Book.Computers, computer(7, 7, 7, 7, 7, 7, 7))[:len(s.Book.Computers)]
	s.Book.Dues, s.Book.Sheets = trial.WithRoom(s.Book.Dues...), trial.WithRoom(s.Book.Sheets...)
	s.Tree.Copies = append(s.Tree.Copies, seen(7))[:len(s.Tree.Copies)]
	for i, c := range s.Tree.Copies {
		s.Tree.Copies[i].Seen = trial.WithRoom(c.Seen...)
	}
	s.Pay.Lines = append(s.Pay.Lines, api.PayLine{Hand: 7})[:len(s.Pay.Lines)]
	return s
}

// isUntouched tells whether a suite with room is as it was.
func isUntouched(s, was api.RoomSuite) bool {
	more := func(n int) int { return n + 1 }
	for i, c := range s.Tree.Copies {
		if c.Parent != was.Tree.Copies[i].Parent || !trial.IsUntouched(c.Seen, was.Tree.Copies[i].Seen...) {
			return false
		}
	}
	return slices.Equal(s.Plan.Starts[:more(len(s.Plan.Starts))], append(slices.Clone(was.Plan.Starts), span(7, 7))) &&
		slices.Equal(s.Book.Computers[:more(len(s.Book.Computers))], append(slices.Clone(was.Book.Computers), computer(7, 7, 7, 7, 7, 7, 7))) &&
		trial.IsUntouched(s.Book.Dues, was.Book.Dues...) && trial.IsUntouched(s.Book.Sheets, was.Book.Sheets...) &&
		s.Tree.Copies[:more(len(s.Tree.Copies))][len(s.Tree.Copies)].Parent == 7 &&
		slices.Equal(s.Pay.Lines[:more(len(s.Pay.Lines))], append(slices.Clone(was.Pay.Lines), api.PayLine{Hand: 7}))
}
